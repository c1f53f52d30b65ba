/-
  WALKS of formatBound, l02Text, FormatInterval.
-/
import Derived.Test.YtfeechnlliaocaaDoorProg
import Derived.Test.YtfeechnlliaocaaDoorFmtI
import Derived.Test.YtfeechnlliaocaaDoorParts
import Derived.Test.YtfeechnlliaocaaDoorIvT
import Derived.Test.YtfeechnlliaocaaDoorIvC
import Derived.WalkKit
import Derived.WalkSpells
import Derived.WalkLawsBesides
import Derived.Deep.QuietTactic
import Derived.Deep.RegionWith
import Derived.Deep.RegionHeld3
import Derived.BigQuiet
import Derived.Lib.Hide
import Derived.Below
namespace Go.Proofs.YtfeechnlliaocaaDoor
open Go.RowKit
set_option linter.unusedVariables false
set_option linter.unusedSimpArgs false

def fmtIv (l h : Int) : ByteArray := if okI l h = true then ivB l h else ⟨#[]⟩
theorem numB_size (n : Int) (h0 : -1000000 ≤ n) (h1 : n ≤ 1000000) : (numB n).size ≤ 32 := by
  by_cases h : 0 ≤ n
  · obtain ⟨u, rfl⟩ : ∃ u : Nat, n = u := ⟨n.toNat, by omega⟩
    rw [numB_pos]
    have := decB_size u (by omega)
    omega
  · obtain ⟨u, rfl, hu⟩ : ∃ u : Nat, n = -(u : Int) ∧ 1 ≤ u := ⟨n.natAbs, by omega, by omega⟩
    rw [numB_neg u hu, ByteArray.size_append]
    have := decB_size u (by omega)
    have : (⟨#[45]⟩ : ByteArray).size = 1 := rfl
    omega
theorem bound_size (n : Int) (h0 : -1000000 ≤ n) (h1 : n ≤ 1000000) : (boundB n).size ≤ 32 := by
  unfold boundB
  split
  · decide
  · split
    · decide
    · exact numB_size n h0 h1

set_option maxRecDepth 100000 in
set_option maxHeartbeats 1000000 in
theorem impl_bound (n : Int) (w : World) (h0 : -1000000 ≤ n) (h1 : n ≤ 1000000) (ht : Pow10 w) :
    Calls Tryd.prog 26 #[.int .i64 n] w fun e w' => e = .returned (.string (boundB n)) ∧ Below w.heap.size w w' := by
  by_cases ha : n = 1000000
  · subst ha
    rw [show boundB 1000000 = infB from rfl]
    unfold infB
    go_enter Tryd.func26, Tryd.ntmps26
    go_wp2
    go_ret
    exact ⟨rfl, Below.refl _ _⟩
  · by_cases hb : n = -1000000
    · subst hb
      rw [show boundB (-1000000) = minfB from rfl]
      unfold minfB
      go_enter Tryd.func26, Tryd.ntmps26
      go_wp2
      go_ret
      exact ⟨rfl, Below.refl _ _⟩
    · rw [show boundB n = numB n from by unfold boundB; rw [if_neg ha, if_neg hb]]
      have HT := Lib.hid ht
      clear ht
      have e1 : (n == 1000000) = false := by simp [ha]
      have e2 : (n == -1000000) = false := by simp [hb]
      clear ha hb
      go_enter Tryd.func26, Tryd.ntmps26
      go_wp2_with fail
      refine (impl_FormatInt n _ (by omega) (by omega) HT.out).mono ?_
      rintro e w1 ⟨rfl, b1⟩
      go_wp2
      go_ret
      exact ⟨rfl, b1⟩

set_option maxRecDepth 100000 in
set_option maxHeartbeats 1000000 in
theorem spec_bound (n : Int) (w : World) (h0 : -1000000 ≤ n) (h1 : n ≤ 1000000) :
    Calls Tryd.prog 32 #[.int .i64 n] w fun e w' => e = .returned (.string (boundB n)) ∧ Below w.heap.size w w' := by
  by_cases ha : n = 1000000
  · subst ha
    rw [show boundB 1000000 = infB from rfl]
    unfold infB
    go_enter Tryd.func32, Tryd.ntmps32
    go_wp2
    go_ret
    exact ⟨rfl, Below.refl _ _⟩
  · by_cases hb : n = -1000000
    · subst hb
      rw [show boundB (-1000000) = minfB from rfl]
      unfold minfB
      go_enter Tryd.func32, Tryd.ntmps32
      go_wp2
      go_ret
      exact ⟨rfl, Below.refl _ _⟩
    · rw [show boundB n = numB n from by unfold boundB; rw [if_neg ha, if_neg hb]]
      have e1 : (n == 1000000) = false := by simp [ha]
      have e2 : (n == -1000000) = false := by simp [hb]
      clear ha hb
      go_enter Tryd.func32, Tryd.ntmps32
      go_wp2_with fail
      refine (spec_FormatInt n _ (by omega) (by omega)).mono ?_
      rintro e w1 ⟨rfl, b1⟩
      go_wp2
      go_ret
      exact ⟨rfl, b1⟩

set_option maxRecDepth 100000 in
set_option maxHeartbeats 1000000 in
theorem spec_FormatInterval (l h : Int) (w : World) :
    Calls Tryd.prog 17 #[ivV l h] w fun e w' => e = .returned (.string (fmtIv l h)) ∧ Below w.heap.size w w' := by
  have HO := Lib.hid (spec_IntervalOk l h)
  cases hk : okI l h with
  | false =>
    rw [show fmtIv l h = ⟨#[]⟩ from by unfold fmtIv; rw [if_neg (by rw [hk]; decide)]]
    rw [hk] at HO
    clear hk
    unfold ivV at HO ⊢
    go_enter Tryd.func17, Tryd.ntmps17
    go_wp2_with (go_at_call 31; refine (HO.out _).mono ?_; rintro e w1 ⟨rfl, rfl⟩)
    go_ret
    exact ⟨rfl, (by repeat (first | exact Below.refl _ _ | refine below_step (by assumption) (by (try simp) <;> omega) ?_ | refine below_drewN ?_ _ | refine Below.drew ?_ | refine Below.setCell ?_ (by (try simp) <;> omega) _ | refine Below.alloc ?_ (by (try simp) <;> omega) _))⟩
  | true =>
    have hb := okI_of hk
    rw [show fmtIv l h = ivB l h from by unfold fmtIv; rw [if_pos hk]]
    rw [hk] at HO
    have h1 := bound_size l (by omega) (by omega)
    have h2 := bound_size h (by omega) (by omega)
    have HL := Lib.hid (fun w => spec_bound l w (by omega) (by omega))
    have HH := Lib.hid (fun w => spec_bound h w (by omega) (by omega))
    clear hk hb
    unfold ivB dotsB
    obtain ⟨x, hx⟩ : ∃ x, x = boundB l := ⟨_, rfl⟩
    obtain ⟨y, hy⟩ : ∃ y, y = boundB h := ⟨_, rfl⟩
    rw [← hx] at h1 HL
    rw [← hy] at h2 HH
    rw [← hx, ← hy]
    clear hx hy
    unfold ivV at HO ⊢
    go_enter Tryd.func17, Tryd.ntmps17
    go_wp2_with (go_at_call 31; refine (HO.out _).mono ?_; rintro e w1 ⟨rfl, rfl⟩)
    go_region_held (fun w' => w'.cell? ⟨w.heap.size, 0, none⟩ = some (.int .i64 l) ∧ w'.cell? ⟨w.heap.size, 1, none⟩ = some (.int .i64 h)) (go_keep) (first | (go_at_call_of 32 (Value.int IntKind.i64 l); refine (HL.out _).mono ?_; rintro e w1 ⟨rfl, b1⟩; have k10 : w1.cell? ⟨w.heap.size, 0, none⟩ = some (.int .i64 l) := (b1.cell (p := ⟨w.heap.size, 0, none⟩) (by (try simp) <;> omega)).trans (by first | assumption | go_simp); have k11 : w1.cell? ⟨w.heap.size, 1, none⟩ = some (.int .i64 h) := (b1.cell (p := ⟨w.heap.size, 1, none⟩) (by (try simp) <;> omega)).trans (by first | assumption | go_simp); have s1 : w.heap.size < w1.heap.size := Nat.lt_of_lt_of_le (by (try simp) <;> omega) b1.size) | (go_at_call_of 32 (Value.int IntKind.i64 h); refine (HH.out _).mono ?_; rintro e w1 ⟨rfl, b1⟩; have k10 : w1.cell? ⟨w.heap.size, 0, none⟩ = some (.int .i64 l) := (b1.cell (p := ⟨w.heap.size, 0, none⟩) (by (try simp) <;> omega)).trans (by first | assumption | go_simp); have k11 : w1.cell? ⟨w.heap.size, 1, none⟩ = some (.int .i64 h) := (b1.cell (p := ⟨w.heap.size, 1, none⟩) (by (try simp) <;> omega)).trans (by first | assumption | go_simp); have s1 : w.heap.size < w1.heap.size := Nat.lt_of_lt_of_le (by (try simp) <;> omega) b1.size))
    all_goals (go_wp2; go_ret; exact ⟨rfl, (by repeat (first | exact Below.refl _ _ | refine below_step (by assumption) (by (try simp) <;> omega) ?_ | refine below_drewN ?_ _ | refine Below.drew ?_ | refine Below.setCell ?_ (by (try simp) <;> omega) _ | refine Below.alloc ?_ (by (try simp) <;> omega) _))⟩)

set_option maxRecDepth 100000 in
set_option maxHeartbeats 1000000 in
theorem impl_FormatInterval (l h : Int) (w : World) (ht : Pow10 w) :
    Calls Tryd.prog 8 #[ivV l h] w fun e w' => e = .returned (.string (fmtIv l h)) ∧ Below w.heap.size w w' := by
  have HO := Lib.hid (impl_IntervalOk_below l h)
  have HT := Lib.hid ht
  clear ht
  cases hk : okI l h with
  | false =>
    rw [show fmtIv l h = ⟨#[]⟩ from by unfold fmtIv; rw [if_neg (by rw [hk]; decide)]]
    rw [hk] at HO
    clear hk
    unfold ivV at HO ⊢
    go_enter Tryd.func8, Tryd.ntmps8
    go_wp2_with (go_at_call 9; refine (HO.out _).mono ?_; rintro e w1 ⟨rfl, b1⟩; have k10 : w1.cell? ⟨w.heap.size, 0, none⟩ = some (.int .i64 l) := (b1.cell (p := ⟨w.heap.size, 0, none⟩) (by (try simp) <;> omega)).trans (by first | assumption | go_simp); have k11 : w1.cell? ⟨w.heap.size, 1, none⟩ = some (.int .i64 h) := (b1.cell (p := ⟨w.heap.size, 1, none⟩) (by (try simp) <;> omega)).trans (by first | assumption | go_simp); have s1 : w.heap.size < w1.heap.size := Nat.lt_of_lt_of_le (by (try simp) <;> omega) b1.size)
    go_ret
    exact ⟨rfl, (by repeat (first | exact Below.refl _ _ | refine below_step (by assumption) (by (try simp) <;> omega) ?_ | refine below_drewN ?_ _ | refine Below.drew ?_ | refine Below.setCell ?_ (by (try simp) <;> omega) _ | refine Below.alloc ?_ (by (try simp) <;> omega) _))⟩
  | true =>
    have hb := okI_of hk
    rw [show fmtIv l h = ivB l h from by unfold fmtIv; rw [if_pos hk]]
    rw [hk] at HO
    have h1 := bound_size l (by omega) (by omega)
    have h2 := bound_size h (by omega) (by omega)
    have HL := Lib.hid (fun (w' : World) (hb' : Below w.heap.size w w') => impl_bound l w' (by omega) (by omega) (var_kept hb' HT.out))
    have HH := Lib.hid (fun (w' : World) (hb' : Below w.heap.size w w') => impl_bound h w' (by omega) (by omega) (var_kept hb' HT.out))
    clear hk hb
    unfold ivB
    obtain ⟨x, hx⟩ : ∃ x, x = boundB l := ⟨_, rfl⟩
    obtain ⟨y, hy⟩ : ∃ y, y = boundB h := ⟨_, rfl⟩
    rw [← hx] at h1 HL
    rw [← hy] at h2 HH
    rw [← hx, ← hy]
    clear hx hy
    rw [show x ++ dotsB ++ y = joinB [x, y] dotsB from by (have e : (⟨#[]⟩ : ByteArray) ++ x = x := by (apply ByteArray.ext; simp)); simp [joinB, joinTo, e]]
    have HJ := Lib.hid (fun (g c : Nat) (w' : World) (hg : g < w'.heap.size) (k0 : w'.cell? ⟨g, 0, none⟩ = some (.string x)) (k1 : w'.cell? ⟨g, 1, none⟩ = some (.string y)) => impl_joinParts [x, y] dotsB (some ⟨g, 0, none⟩) 2 c w' rfl (by omega) (by decide) (by intro z hz; simp at hz; rcases hz with rfl | rfl <;> omega) (fun _ => ⟨g, 0, rfl, hg, fun j hj => by
      match j, hj with
      | 0, _ => exact k0
      | 1, _ => exact k1⟩))
    unfold dotsB at HJ ⊢
    unfold ivV at HO ⊢
    go_enter Tryd.func8, Tryd.ntmps8
    go_wp2_with (go_at_call 9; refine (HO.out _).mono ?_; rintro e w1 ⟨rfl, b1⟩; have k10 : w1.cell? ⟨w.heap.size, 0, none⟩ = some (.int .i64 l) := (b1.cell (p := ⟨w.heap.size, 0, none⟩) (by (try simp) <;> omega)).trans (by first | assumption | go_simp); have k11 : w1.cell? ⟨w.heap.size, 1, none⟩ = some (.int .i64 h) := (b1.cell (p := ⟨w.heap.size, 1, none⟩) (by (try simp) <;> omega)).trans (by first | assumption | go_simp); have s1 : w.heap.size < w1.heap.size := Nat.lt_of_lt_of_le (by (try simp) <;> omega) b1.size)
    go_region_held (fun w' => w'.cell? ⟨w.heap.size, 0, none⟩ = some (.int .i64 l) ∧ w'.cell? ⟨w.heap.size, 1, none⟩ = some (.int .i64 h)) (go_keep) (first | (go_at_call_of 26 (Value.int IntKind.i64 l); refine (HL.out _ (by repeat (first | exact Below.refl _ _ | refine below_step (by assumption) (by (try simp) <;> omega) ?_ | refine below_drewN ?_ _ | refine Below.drew ?_ | refine Below.setCell ?_ (by (try simp) <;> omega) _ | refine Below.alloc ?_ (by (try simp) <;> omega) _))).mono ?_; rintro e w1 ⟨rfl, b1⟩; have k10 : w1.cell? ⟨w.heap.size, 0, none⟩ = some (.int .i64 l) := (b1.cell (p := ⟨w.heap.size, 0, none⟩) (by (try simp) <;> omega)).trans (by first | assumption | go_simp); have k11 : w1.cell? ⟨w.heap.size, 1, none⟩ = some (.int .i64 h) := (b1.cell (p := ⟨w.heap.size, 1, none⟩) (by (try simp) <;> omega)).trans (by first | assumption | go_simp); have s1 : w.heap.size < w1.heap.size := Nat.lt_of_lt_of_le (by (try simp) <;> omega) b1.size) | (go_at_call_of 26 (Value.int IntKind.i64 h); refine (HH.out _ (by repeat (first | exact Below.refl _ _ | refine below_step (by assumption) (by (try simp) <;> omega) ?_ | refine below_drewN ?_ _ | refine Below.drew ?_ | refine Below.setCell ?_ (by (try simp) <;> omega) _ | refine Below.alloc ?_ (by (try simp) <;> omega) _))).mono ?_; rintro e w1 ⟨rfl, b1⟩; have k10 : w1.cell? ⟨w.heap.size, 0, none⟩ = some (.int .i64 l) := (b1.cell (p := ⟨w.heap.size, 0, none⟩) (by (try simp) <;> omega)).trans (by first | assumption | go_simp); have k11 : w1.cell? ⟨w.heap.size, 1, none⟩ = some (.int .i64 h) := (b1.cell (p := ⟨w.heap.size, 1, none⟩) (by (try simp) <;> omega)).trans (by first | assumption | go_simp); have s1 : w.heap.size < w1.heap.size := Nat.lt_of_lt_of_le (by (try simp) <;> omega) b1.size) | (go_at_call 25; refine (HJ.out _ _ _ (by simp) (by go_simp) (by go_simp)).mono ?_; rintro e w1 ⟨rfl, b1⟩; have k10 : w1.cell? ⟨w.heap.size, 0, none⟩ = some (.int .i64 l) := (b1.cell (p := ⟨w.heap.size, 0, none⟩) (by (try simp) <;> omega)).trans (by first | assumption | go_simp); have k11 : w1.cell? ⟨w.heap.size, 1, none⟩ = some (.int .i64 h) := (b1.cell (p := ⟨w.heap.size, 1, none⟩) (by (try simp) <;> omega)).trans (by first | assumption | go_simp); have s1 : w.heap.size < w1.heap.size := Nat.lt_of_lt_of_le (by (try simp) <;> omega) b1.size))
    all_goals (go_wp2; go_ret; exact ⟨rfl, (by repeat (first | exact Below.refl _ _ | refine below_step (by assumption) (by (try simp) <;> omega) ?_ | refine below_drewN ?_ _ | refine Below.drew ?_ | refine Below.setCell ?_ (by (try simp) <;> omega) _ | refine Below.alloc ?_ (by (try simp) <;> omega) _))⟩)

end Go.Proofs.YtfeechnlliaocaaDoor
