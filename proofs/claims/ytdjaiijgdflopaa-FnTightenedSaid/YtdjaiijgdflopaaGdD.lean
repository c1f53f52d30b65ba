/-
  WALK of impl's grid.tightened.
-/
import Derived.Test.YtdjaiijgdflopaaGdC
namespace Go.Proofs.Ytdjaiijgdflopaa
open Go.RowKit
set_option linter.unusedVariables false
set_option linter.unusedSimpArgs false

def tgA (f : Nat → Int) (u v : Nat) (c : Int) (a b : Nat) : Int :=
  if f (a * 8 + b) ≤ addI (addI (f (a * 8 + u)) c) (f (v * 8 + b)) then f (a * 8 + b) else addI (addI (f (a * 8 + u)) c) (f (v * 8 + b))
def tgS (N : Nat) (f : Nat → Int) (u v : Nat) (c : Int) (i k : Nat) : Nat → Int := fun p =>
  if p / 8 < N ∧ p % 8 < N ∧ (p / 8 < i ∨ (p / 8 = i ∧ p % 8 < k)) then tgA f u v c (p / 8) (p % 8) else f p
theorem tgS_start (N : Nat) (f : Nat → Int) (u v : Nat) (c : Int) : tgS N f u v c 0 0 = f := by
  funext p; unfold tgS; rw [if_neg (by omega)]
theorem tgS_row (N : Nat) (f : Nat → Int) (u v : Nat) (c : Int) (i : Nat) : tgS N f u v c i N = tgS N f u v c (i + 1) 0 := by
  funext p; unfold tgS
  by_cases h : p / 8 < N ∧ p % 8 < N ∧ p / 8 < i + 1
  · rw [if_pos (by omega), if_pos (by omega)]
  · rw [if_neg (by omega), if_neg (by omega)]
theorem tgS_next {N i k : Nat} (f : Nat → Int) (u v : Nat) (c : Int) (hN : N ≤ 8) (hi : i < N) (hk : k < N) : upf (tgS N f u v c i k) (i * 8 + k) (tgA f u v c i k) = tgS N f u v c i (k + 1) := by
  funext p; unfold upf
  by_cases e : p = i * 8 + k
  · have e1 : p / 8 = i := by omega
    have e2 : p % 8 = k := by omega
    rw [if_pos e]; unfold tgS
    rw [e1, e2, if_pos (by omega)]
  · rw [if_neg e]; unfold tgS
    by_cases h : p / 8 < N ∧ p % 8 < N ∧ (p / 8 < i ∨ (p / 8 = i ∧ p % 8 < k))
    · rw [if_pos h, if_pos (by omega)]
    · rw [if_neg h, if_neg (by omega)]
def tgF (N : Nat) (f : Nat → Int) (u v : Nat) (c : Int) : Nat → Int := tgS N f u v c N 0

set_option maxRecDepth 100000 in
set_option maxHeartbeats 4000000 in
theorem tightened_any (N : Nat) (f : Nat → Int) (u v : Nat) (c : Int) (w : World) (hN : N ≤ 8) (hu : u < N) (hv : v < N) :
    Calls Try.prog 70 #[.agg (gridA f), .agg #[.int .i64 u, .int .i64 v, .int .i64 c], .int .i64 N] w fun e w' => e = .returned (.agg (gridA (tgF N f u v c))) ∧ Below w.heap.size w w' := by
  have hz := zero_grid
  go_enter Try.func70, Try.ntmps70
  go_upto_region 1 with (fail)
  obtain ⟨w1, hw1⟩ : ∃ w1, w1 = ((w.alloc (.cells (gridA f) 77)).alloc (.cells #[.int .i64 u, .int .i64 v, .int .i64 c] 35)).alloc (.cells (gridA fun _ => 0) 77) := ⟨_, rfl⟩
  rw [← hw1]
  have hD : GdAt w1 w.heap.size f := by rw [hw1]; exact ((GdAt.new w f).alloc _).alloc _
  have hR : GdAt w1 (w.heap.size + 1 + 1) (fun _ => 0) := by rw [hw1]; exact GdAt.made (by simp)
  have e0 : w1.cell? ⟨w.heap.size + 1, 0, none⟩ = some (.int .i64 u) := by rw [hw1]; go_simp
  have e1 : w1.cell? ⟨w.heap.size + 1, 1, none⟩ = some (.int .i64 v) := by rw [hw1]; go_simp
  have e2 : w1.cell? ⟨w.heap.size + 1, 2, none⟩ = some (.int .i64 c) := by rw [hw1]; go_simp
  have hs1 : w1.heap.size = w.heap.size + 1 + 1 + 1 := by rw [hw1]; simp
  have B1 : Below w.heap.size w w1 := by rw [hw1]; exact (by repeat (first | exact Below.refl _ _ | refine below_step (by assumption) (by first | omega | (simp; done) | (simp; omega)) ?_ | refine below_drewN ?_ _ | refine Below.drew ?_ | refine Below.setCell ?_ (by first | omega | (simp; done) | (simp; omega)) _ | refine Below.alloc ?_ (by first | omega | (simp; done) | (simp; omega)) _))
  clear hw1
  have hA : GdAt (w1.alloc (.cells (gridA fun _ => 0) 77)) (w.heap.size + 1 + 1 + 1) (fun _ => 0) := GdAt.made hs1.symm
  obtain ⟨w2, hw2⟩ : ∃ w2, w2 = (w1.alloc (.cells (gridA fun _ => 0) 77)).setRow (w.heap.size + 1 + 1 + 1) (gridA f) := ⟨_, rfl⟩
  have hD2 : GdAt w2 w.heap.size f := by rw [hw2]; exact (hD.alloc _).row_other (by omega) _
  have hR2 : GdAt w2 (w.heap.size + 1 + 1) (fun _ => 0) := by rw [hw2]; exact (hR.alloc _).row_other (by omega) _
  have hS2 : GdAt w2 (w.heap.size + 1 + 1 + 1) (tgS N f u v c 0 0) := by rw [hw2, tgS_start]; exact hA.row f
  have U2 : Below w1.heap.size w1 w2 := by rw [hw2]; exact below_row ((Below.refl _ _).alloc (Nat.le_refl _) _) (by omega) _
  have d0 := (U2.cell (p := ⟨w.heap.size + 1, 0, none⟩) (by dsimp only; omega)).trans e0
  have d1 := (U2.cell (p := ⟨w.heap.size + 1, 1, none⟩) (by dsimp only; omega)).trans e1
  have d2 := (U2.cell (p := ⟨w.heap.size + 1, 2, none⟩) (by dsimp only; omega)).trans e2
  have B2 : Below w.heap.size w w2 := B1.trans (U2.mono (by omega))
  go_wp2_with (first | (refine wpList_load_row rfl 77 _ rfl w.heap.size rfl 77 _ (0, 0) _ hD Try.underlying77 rfl (size_grid _) ?_) | (refine wpList_store_row rfl 77 _ _ rfl (w.heap.size + 1 + 1 + 1) _ rfl rfl 77 _ hA (size_grid _) (by rw [gridA_size, gridA_size]) (gridA_one _) ?_))
  rw [← hw2]
  clear hw2 hA hD hR hs1 B1 U2 e0 e1 e2
  go_loopw [12] (fun i wr => ∃ q : Nat, q ≤ N ∧ i = .int .i64 q ∧ GdAt wr (w.heap.size + 1 + 1 + 1) (tgS N f u v c q 0) ∧ GdAt wr (w.heap.size + 1 + 1) (fun _ => 0) ∧ GdAt wr w.heap.size f ∧ wr.cell? ⟨w.heap.size + 1, 0, none⟩ = some (.int .i64 u) ∧ wr.cell? ⟨w.heap.size + 1, 1, none⟩ = some (.int .i64 v) ∧ wr.cell? ⟨w.heap.size + 1, 2, none⟩ = some (.int .i64 c) ∧ Below w.heap.size w wr) (fun i _ => N - (intOf i).toNat)
  case atStart => exact ⟨0, Nat.zero_le _, rfl, hS2, hR2, hD2, d0, d1, d2, B2⟩
  case round =>
    obtain ⟨i, hi, rfl, hS, hR, hD, e0, e1, e2, hbw⟩ := hrel
    by_cases hiN : i < N
    · clear hS2 hR2 hD2 B2 d0 d1 d2
      have HS := Lib.hid hS
      have HR := Lib.hid hR
      have HD := Lib.hid hD
      clear hS hR hD
      go_wp2_with fail
      go_loopw [16] (fun i3 wr3 => ∃ k : Nat, k ≤ N ∧ i3 = .int .i64 k ∧ GdAt wr3 (w.heap.size + 1 + 1 + 1) (tgS N f u v c i k) ∧ GdAt wr3 (w.heap.size + 1 + 1) (fun _ => 0) ∧ GdAt wr3 w.heap.size f ∧ wr3.cell? ⟨w.heap.size + 1, 0, none⟩ = some (.int .i64 u) ∧ wr3.cell? ⟨w.heap.size + 1, 1, none⟩ = some (.int .i64 v) ∧ wr3.cell? ⟨w.heap.size + 1, 2, none⟩ = some (.int .i64 c) ∧ Below w.heap.size w wr3) (fun i3 _ => N - (intOf i3).toNat)
      case atStart => exact ⟨0, Nat.zero_le _, rfl, HS.out, HR.out, HD.out, e0, e1, e2, hbw⟩
      case round =>
        clear e0 e1 e2 HS HR HD hbw
        obtain ⟨k, hk, rfl, hS, hR, hD, e0, e1, e2, hbw3⟩ := hrel
        by_cases hkN : k < N
        · have c0 := hS.cell (j := i * 8 + k) (by omega)
          have f1 := hS.free (i * 8 + k)
          have c1 := hD.cell (j := i * 8 + k) (by omega)
          have c2 := hD.cell (j := i * 8 + u) (by omega)
          have c3 := hD.cell (j := v * 8 + k) (by omega)
          have hmn : ∀ r, r = (if f (i * 8 + k) ≤ addI (addI (f (i * 8 + u)) c) (f (v * 8 + k)) then f (i * 8 + k) else addI (addI (f (i * 8 + u)) c) (f (v * 8 + k))) → upf (tgS N f u v c i k) (i * 8 + k) r = tgS N f u v c i (k + 1) := fun r hr => by rw [hr]; exact tgS_next f u v c hN hiN hkN
          have HA := Lib.hid (fun (a b : Int) (W : World) => (impl_AddBounds a b W).mono (R' := fun e w' => e = .returned (.int .i64 (addI a b)) ∧ w' = W) (fun e w' ⟨h1, h2⟩ => ⟨h1, h2.symm⟩))
          obtain ⟨o, ho⟩ : ∃ o, o = tgS N f u v c i k (i * 8 + k) := ⟨_, rfl⟩
          obtain ⟨x, hx⟩ : ∃ x, x = f (i * 8 + k) := ⟨_, rfl⟩
          obtain ⟨y, hy⟩ : ∃ y, y = f (i * 8 + u) := ⟨_, rfl⟩
          obtain ⟨z, hz2⟩ : ∃ z, z = f (v * 8 + k) := ⟨_, rfl⟩
          rw [← ho] at c0
          rw [← hx] at c1 hmn
          rw [← hy] at c2 hmn
          rw [← hz2] at c3 hmn
          have HMN := Lib.hid hmn
          have HS3 := Lib.hid hS
          have HR3 := Lib.hid hR
          have HD3 := Lib.hid hD
          have hii : (i : Int) < 8 := by omega
          have hui : (u : Int) < 8 := by omega
          have hvi : (v : Int) < 8 := by omega
          have hki : (k : Int) < 8 := by omega
          clear ho hx hy hz2 hmn hS hR hD
          by_cases hle : x ≤ addI (addI y c) z
          · have hle2 : ¬ (addI (addI y c) z < x) := by omega
            go_wp2_with fail
            refine wp_region_still_tail 26 (by kernel_rfl) (by kernel_rfl) ?_
            change wpStill _ _ (World.drew _) _ _ _
            simp only [List.take_succ_cons, List.take_zero, List.drop_succ_cons, List.drop_zero]
            repeat (first | still_step | still_call (HA.out _ _ _))
            refine wpStill_nil ?_
            change wpList _ _ _ _ _ (World.drew _)
            go_wp2_with fail
            go_roundw
            case rel => exact ⟨k + 1, by omega, by go_num, by rw [← HMN.out x (by rw [if_pos (by omega)])]; exact HS3.out.drew.store (by omega) _, HR3.out.drew.other (by dsimp only; omega) _, HD3.out.drew.other (by dsimp only; omega) _, by go_simp, by go_simp, by go_simp, (by repeat (first | exact Below.refl _ _ | refine below_step (by assumption) (by first | omega | (simp; done) | (simp; omega)) ?_ | refine below_drewN ?_ _ | refine Below.drew ?_ | refine Below.setCell ?_ (by first | omega | (simp; done) | (simp; omega)) _ | refine Below.alloc ?_ (by first | omega | (simp; done) | (simp; omega)) _))⟩
            case measure => simp [intOf]; omega
          · have hle2 : addI (addI y c) z < x := by omega
            go_wp2_with fail
            refine wp_region_still_tail 26 (by kernel_rfl) (by kernel_rfl) ?_
            change wpStill _ _ (World.drew _) _ _ _
            simp only [List.take_succ_cons, List.take_zero, List.drop_succ_cons, List.drop_zero]
            repeat (first | still_step | still_call (HA.out _ _ _))
            refine wpStill_nil ?_
            change wpList _ _ _ _ _ (World.drew _)
            go_wp2_with fail
            go_roundw
            case rel => exact ⟨k + 1, by omega, by go_num, by rw [← HMN.out (addI (addI y c) z) (by rw [if_neg (by omega)])]; exact HS3.out.drew.store (by omega) _, HR3.out.drew.other (by dsimp only; omega) _, HD3.out.drew.other (by dsimp only; omega) _, by go_simp, by go_simp, by go_simp, (by repeat (first | exact Below.refl _ _ | refine below_step (by assumption) (by first | omega | (simp; done) | (simp; omega)) ?_ | refine below_drewN ?_ _ | refine Below.drew ?_ | refine Below.setCell ?_ (by first | omega | (simp; done) | (simp; omega)) _ | refine Below.alloc ?_ (by first | omega | (simp; done) | (simp; omega)) _))⟩
            case measure => simp [intOf]; omega
        · have hkn : k = N := by omega
          subst hkn
          rw [tgS_row] at hS
          have HS3 := Lib.hid hS
          clear hS
          go_wp2_with fail
          go_roundw
          case rel => exact ⟨i + 1, by omega, by go_num, HS3.out, hR, hD, e0, e1, e2, hbw3⟩
          case measure => simp [intOf]; omega
    · have hin : i = N := by omega
      subst hin
      go_wp2_with (first | (refine wpList_load_row rfl 77 _ rfl (w.heap.size + 1 + 1 + 1) rfl 77 _ (0, 0) _ hS Try.underlying77 rfl (size_grid _) ?_) | (refine wpList_store_row rfl 77 _ _ rfl (w.heap.size + 1 + 1) _ rfl rfl 77 _ hR (size_grid _) (by rw [gridA_size, gridA_size]) (gridA_one _) ?_))
      exact bodyPost_ret (v := .agg (gridA (tgF i f u v c))) (results_cell_row Try.results70 _ _ (w.heap.size + 1 + 1) 77 _ (0, 0) _ rfl (hR.row _) Try.underlying77 rfl (size_grid _)) rfl ⟨rfl, below_row hbw (by omega) _⟩

end Go.Proofs.Ytdjaiijgdflopaa
