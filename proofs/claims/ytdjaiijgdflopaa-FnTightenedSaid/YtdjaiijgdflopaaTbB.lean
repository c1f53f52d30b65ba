/-
  WALKS of the small methods of tables: place, hasNode, number; spec's l04At.
-/
import Derived.Test.YtdjaiijgdflopaaTbA
import Derived.Test.YtdjaiijgdflopaaTabA
namespace Go.Proofs.Ytdjaiijgdflopaa
open Go.RowKit
set_option linter.unusedVariables false
set_option linter.unusedSimpArgs false

/-- A row of ints that is read: the j-th of them. -/
theorem rowInts {w : World} {A : Option Addr} {zs : List Int} (h : RowAt w A (zs.map intV)) {q : Nat} (hq : q < zs.length) : ∃ g o, A = some ⟨g, o, none⟩ ∧ g < w.heap.size ∧ w.cell? ⟨g, o + q, none⟩ = some (.int .i64 (zs[q]?.getD 0)) := by
  obtain ⟨g, o, hA, hg, hc⟩ := h (by simp; omega)
  refine ⟨g, o, hA, hg, ?_⟩
  rw [hc q (by simpa using hq), List.getElem_map, List.getElem?_eq_getElem hq]
  rfl

set_option maxRecDepth 100000 in
set_option maxHeartbeats 1000000 in
theorem thasNode_any (n : Int) (A : Option Addr) (k c : Nat) (i : Int) (w : World) :
    Calls Try.prog 56 #[grV n A k c, .int .i64 i] w fun e w' => e = .returned (.bool (decide (0 ≤ i ∧ i < n))) ∧ Below w.heap.size w w' := by
  unfold grV
  by_cases h1 : 0 ≤ i
  · by_cases h2 : i < n
    all_goals
      go_enter Try.func56, Try.ntmps56
      go_wp2
      go_ret
      exact ⟨ret_b (by simp [h1, h2]), (by repeat (first | exact Below.refl _ _ | refine below_step (by assumption) (by first | omega | (simp; done) | (simp; omega)) ?_ | refine below_drewN ?_ _ | refine Below.drew ?_ | refine Below.setCell ?_ (by first | omega | (simp; done) | (simp; omega)) _ | refine Below.alloc ?_ (by first | omega | (simp; done) | (simp; omega)) _))⟩
  · go_enter Try.func56, Try.ntmps56
    go_wp2
    go_ret
    exact ⟨ret_b (by simp; intro; omega), (by repeat (first | exact Below.refl _ _ | refine below_step (by assumption) (by first | omega | (simp; done) | (simp; omega)) ?_ | refine below_drewN ?_ _ | refine Below.drew ?_ | refine Below.setCell ?_ (by first | omega | (simp; done) | (simp; omega)) _ | refine Below.alloc ?_ (by first | omega | (simp; done) | (simp; omega)) _))⟩

theorem at_lt {N i k : Nat} (hi : i < N) (hk : k < N) : i * N + k < N * N := by
  have h1 : (i + 1) * N ≤ N * N := Nat.mul_le_mul_right N hi
  rw [Nat.succ_mul] at h1; omega
theorem sq_le {N : Nat} (h : N ≤ 8) : N * N ≤ 64 := Nat.mul_le_mul h h

set_option maxRecDepth 100000 in
set_option maxHeartbeats 1000000 in
theorem number_any (N i k : Nat) (zs : List Int) (A : Option Addr) (m c : Nat) (w : World) (hN : N ≤ 8) (hi : i < N) (hk : k < N) (hl : zs.length = m) (hm : m = N * N) (hr : RowAt w A (zs.map intV)) :
    Calls Try.prog 57 #[grV N A m c, .int .i64 i, .int .i64 k] w fun e w' => e = .returned (.int .i64 (atT N zs i k)) ∧ Below w.heap.size w w' := by
  unfold grV atT
  have hat := at_lt hi hk
  have h64 := sq_le hN
  rw [← hm] at hat h64
  obtain ⟨p, hp⟩ : ∃ p, p = i * N := ⟨_, rfl⟩
  have e1 : (i : Int) * (N : Int) = (p : Int) := by rw [hp]; simp
  rw [← hp] at hat ⊢
  obtain ⟨g, o, rfl, hg, hc⟩ := rowInts hr (q := p + k) (by omega)
  obtain ⟨x, hx⟩ : ∃ x, x = zs[p + k]?.getD 0 := ⟨_, rfl⟩
  rw [← hx] at hc ⊢
  have hlt : (p : Int) + k < (m : Int) := by omega
  have ng : (g = w.heap.size) = False := eq_false (by omega)
  have ng2 : (w.heap.size = g) = False := eq_false (by omega)
  clear hx hr hp hm hl
  go_enter Try.func57, Try.ntmps57
  go_wp2
  go_ret
  exact ⟨rfl, (by repeat (first | exact Below.refl _ _ | refine below_step (by assumption) (by first | omega | (simp; done) | (simp; omega)) ?_ | refine below_drewN ?_ _ | refine Below.drew ?_ | refine Below.setCell ?_ (by first | omega | (simp; done) | (simp; omega)) _ | refine Below.alloc ?_ (by first | omega | (simp; done) | (simp; omega)) _))⟩

set_option maxRecDepth 100000 in
set_option maxHeartbeats 1000000 in
theorem l04At_any (N i k : Nat) (zs : List Int) (A : Option Addr) (m c : Nat) (w : World) (hN : N ≤ 8) (hi : i < N) (hk : k < N) (hl : zs.length = m) (hm : m = N * N) (hr : RowAt w A (zs.map intV)) :
    Calls Try.prog 75 #[grV N A m c, .int .i64 i, .int .i64 k] w fun e w' => e = .returned (.int .i64 (atT N zs i k)) ∧ Below w.heap.size w w' := by
  unfold grV atT
  have hat := at_lt hi hk
  have h64 := sq_le hN
  rw [← hm] at hat h64
  obtain ⟨p, hp⟩ : ∃ p, p = i * N := ⟨_, rfl⟩
  have e1 : (i : Int) * (N : Int) = (p : Int) := by rw [hp]; simp
  rw [← hp] at hat ⊢
  obtain ⟨g, o, rfl, hg, hc⟩ := rowInts hr (q := p + k) (by omega)
  obtain ⟨x, hx⟩ : ∃ x, x = zs[p + k]?.getD 0 := ⟨_, rfl⟩
  rw [← hx] at hc ⊢
  have hlt : (p : Int) + k < (m : Int) := by omega
  have ng : (g = w.heap.size) = False := eq_false (by omega)
  have ng2 : (w.heap.size = g) = False := eq_false (by omega)
  clear hx hr hp hm hl
  go_enter Try.func75, Try.ntmps75
  go_wp2
  go_ret
  exact ⟨rfl, (by repeat (first | exact Below.refl _ _ | refine below_step (by assumption) (by first | omega | (simp; done) | (simp; omega)) ?_ | refine below_drewN ?_ _ | refine Below.drew ?_ | refine Below.setCell ?_ (by first | omega | (simp; done) | (simp; omega)) _ | refine Below.alloc ?_ (by first | omega | (simp; done) | (simp; omega)) _))⟩

set_option maxRecDepth 100000 in
set_option maxHeartbeats 1000000 in
theorem place_any (N j : Nat) (A : Option Addr) (m c : Nat) (w : World) (hN : N ≤ 8) (h0 : 0 < N) (hj : j < 64) :
    Calls Try.prog 61 #[grV N A m c, .int .i64 j] w fun e w' => e = .returned (.tuple #[.int .i64 ((j / N : Nat) : Int), .int .i64 ((j % N : Nat) : Int)]) ∧ Below w.heap.size w w' := by
  unfold grV
  have hz : ((N : Int) == 0) = false := by simp; omega
  obtain ⟨a, ha⟩ : ∃ a, a = j / N := ⟨_, rfl⟩
  obtain ⟨b, hb⟩ : ∃ b, b = j % N := ⟨_, rfl⟩
  have e1 : (j : Int).tdiv (N : Int) = (a : Int) := by rw [ha]; rfl
  have e2 : (j : Int).tmod (N : Int) = (b : Int) := by rw [hb]; rfl
  have ha8 : a ≤ j := by rw [ha]; exact Nat.div_le_self _ _
  have hb8 : b < N := by rw [hb]; exact Nat.mod_lt _ h0
  rw [← ha, ← hb]
  clear ha hb
  go_enter Try.func61, Try.ntmps61
  go_wp2
  go_quiet (fail)
  go_wp2
  go_ret2
  exact ⟨rfl, (by repeat (first | exact Below.refl _ _ | refine below_step (by assumption) (by first | omega | (simp; done) | (simp; omega)) ?_ | refine below_drewN ?_ _ | refine Below.drew ?_ | refine Below.setCell ?_ (by first | omega | (simp; done) | (simp; omega)) _ | refine Below.alloc ?_ (by first | omega | (simp; done) | (simp; omega)) _))⟩

end Go.Proofs.Ytdjaiijgdflopaa
