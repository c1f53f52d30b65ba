/-
  WALK of impl's grid.shortened.
-/
import Derived.Test.YtdjaiijgdflopaaGdB
import Derived.StillTailTactics
import Derived.Deep.CutRange
import Derived.Deep.Cut
namespace Go.Proofs.Ytdjaiijgdflopaa
open Go.RowKit
set_option linter.unusedVariables false
set_option linter.unusedSimpArgs false

/-- The least of the number and of the ways over the first J nodes. -/
def mnT (f : Nat → Int) (a b : Nat) : Nat → Int
  | 0 => f (a * 8 + b)
  | J + 1 => if mnT f a b J ≤ addI (f (a * 8 + J)) (f (J * 8 + b)) then mnT f a b J else addI (f (a * 8 + J)) (f (J * 8 + b))
/-- The grid when the loops stand at i, j, k. -/
def shS (N : Nat) (f : Nat → Int) (i j k : Nat) : Nat → Int := fun p =>
  if p / 8 < N ∧ p % 8 < N then (if p / 8 < i then mnT f (p / 8) (p % 8) N else if p / 8 = i then (if p % 8 < k then mnT f (p / 8) (p % 8) (j + 1) else mnT f (p / 8) (p % 8) j) else f p) else f p
theorem split8 (p : Nat) : p / 8 * 8 + p % 8 = p := by omega
theorem mnT_zero (f : Nat → Int) (p : Nat) : mnT f (p / 8) (p % 8) 0 = f p := by simp [mnT, split8]
theorem shS_start (N : Nat) (f : Nat → Int) : shS N f 0 0 0 = f := by
  funext p; unfold shS
  split
  · rw [if_neg (by omega)]
    split
    · rw [if_neg (by omega), mnT_zero]
    · rfl
  · rfl
theorem shS_row (N : Nat) (f : Nat → Int) (i j : Nat) : shS N f i j N = shS N f i (j + 1) 0 := by
  funext p; unfold shS
  by_cases h : p / 8 < N ∧ p % 8 < N
  · rw [if_pos h, if_pos h]
    split
    · rfl
    · split
      · rw [if_pos h.2, if_neg (by omega)]
      · rfl
  · rw [if_neg h, if_neg h]
theorem shS_plane (N : Nat) (f : Nat → Int) (i : Nat) : shS N f i N 0 = shS N f (i + 1) 0 0 := by
  funext p; unfold shS
  by_cases h : p / 8 < N ∧ p % 8 < N
  · rw [if_pos h, if_pos h]
    by_cases h1 : p / 8 < i
    · rw [if_pos h1, if_pos (by omega)]
    · rw [if_neg h1]
      by_cases h2 : p / 8 = i
      · rw [if_pos h2, if_neg (by omega), if_pos (by omega)]
      · rw [if_neg h2, if_neg (by omega)]
        by_cases h3 : p / 8 = i + 1
        · rw [if_pos h3, if_neg (by omega), mnT_zero]
        · rw [if_neg h3]
  · rw [if_neg h, if_neg h]
theorem shS_at {N i j k : Nat} (f : Nat → Int) (hN : N ≤ 8) (hi : i < N) (hk : k < N) : shS N f i j k (i * 8 + k) = mnT f i k j := by
  unfold shS
  have e1 : (i * 8 + k) / 8 = i := by omega
  have e2 : (i * 8 + k) % 8 = k := by omega
  rw [e1, e2, if_pos ⟨hi, hk⟩, if_neg (by omega), if_pos rfl, if_neg (by omega)]
theorem shS_next {N i j k : Nat} (f : Nat → Int) (hN : N ≤ 8) (hi : i < N) (hk : k < N) {r : Int} (hr : r = mnT f i k (j + 1)) : upf (shS N f i j k) (i * 8 + k) r = shS N f i j (k + 1) := by
  funext p; unfold upf
  by_cases e : p = i * 8 + k
  · have e1 : p / 8 = i := by omega
    have e2 : p % 8 = k := by omega
    rw [if_pos e]; unfold shS
    rw [e1, e2, if_pos ⟨hi, hk⟩, if_neg (by omega), if_pos rfl, if_pos (by omega), hr]
  · rw [if_neg e]; unfold shS
    by_cases h : p / 8 < N ∧ p % 8 < N
    · rw [if_pos h, if_pos h]
      by_cases h1 : p / 8 < i
      · rw [if_pos h1, if_pos h1]
      · rw [if_neg h1, if_neg h1]
        by_cases h2 : p / 8 = i
        · rw [if_pos h2, if_pos h2]
          by_cases h3 : p % 8 < k
          · rw [if_pos h3, if_pos (by omega)]
          · rw [if_neg h3, if_neg (by omega)]
        · rw [if_neg h2, if_neg h2]
    · rw [if_neg h, if_neg h]
def shF (N : Nat) (f : Nat → Int) : Nat → Int := shS N f N 0 0

set_option maxRecDepth 100000 in
set_option maxHeartbeats 4000000 in
theorem shortened_any (N : Nat) (f : Nat → Int) (w : World) (hN : N ≤ 8) :
    Calls Try.prog 60 #[.agg (gridA f), .int .i64 N] w fun e w' => e = .returned (.agg (gridA (shF N f))) ∧ Below w.heap.size w w' := by
  have hz := zero_grid
  go_enter Try.func60, Try.ntmps60
  go_upto_region 1 with (fail)
  obtain ⟨w1, hw1⟩ : ∃ w1, w1 = (w.alloc (.cells (gridA f) 77)).alloc (.cells (gridA fun _ => 0) 77) := ⟨_, rfl⟩
  rw [← hw1]
  have hD : GdAt w1 w.heap.size f := by rw [hw1]; exact (GdAt.new w f).alloc _
  have hR : GdAt w1 (w.heap.size + 1) (fun _ => 0) := by rw [hw1]; exact GdAt.made (by simp)
  have hs1 : w1.heap.size = w.heap.size + 1 + 1 := by rw [hw1]; simp
  have B1 : Below w.heap.size w w1 := by rw [hw1]; exact (by repeat (first | exact Below.refl _ _ | refine below_step (by assumption) (by first | omega | (simp; done) | (simp; omega)) ?_ | refine below_drewN ?_ _ | refine Below.drew ?_ | refine Below.setCell ?_ (by first | omega | (simp; done) | (simp; omega)) _ | refine Below.alloc ?_ (by first | omega | (simp; done) | (simp; omega)) _))
  clear hw1
  have hA : GdAt (w1.alloc (.cells (gridA fun _ => 0) 77)) (w.heap.size + 1 + 1) (fun _ => 0) := GdAt.made hs1.symm
  obtain ⟨w2, hw2⟩ : ∃ w2, w2 = (w1.alloc (.cells (gridA fun _ => 0) 77)).setRow (w.heap.size + 1 + 1) (gridA f) := ⟨_, rfl⟩
  have hD2 : GdAt w2 w.heap.size f := by rw [hw2]; exact (hD.alloc _).row_other (by omega) _
  have hR2 : GdAt w2 (w.heap.size + 1) (fun _ => 0) := by rw [hw2]; exact (hR.alloc _).row_other (by omega) _
  have hS2 : GdAt w2 (w.heap.size + 1 + 1) (shS N f 0 0 0) := by rw [hw2, shS_start]; exact hA.row f
  have B2 : Below w.heap.size w w2 := by rw [hw2]; exact below_row (B1.alloc B1.size _) (by omega) _
  go_wp2_with (first | (refine wpList_load_row rfl 77 _ rfl w.heap.size rfl 77 _ (0, 0) _ hD Try.underlying77 rfl (size_grid _) ?_) | (refine wpList_store_row rfl 77 _ _ rfl (w.heap.size + 1 + 1) _ rfl rfl 77 _ hA (size_grid _) (by rw [gridA_size, gridA_size]) (gridA_one _) ?_))
  rw [← hw2]
  clear hw2 hA hD hR hs1 B1
  go_loopw [11] (fun i wr => ∃ q : Nat, q ≤ N ∧ i = .int .i64 q ∧ GdAt wr (w.heap.size + 1 + 1) (shS N f q 0 0) ∧ GdAt wr (w.heap.size + 1) (fun _ => 0) ∧ GdAt wr w.heap.size f ∧ Below w.heap.size w wr) (fun i _ => N - (intOf i).toNat)
  case atStart => exact ⟨0, Nat.zero_le _, rfl, hS2, hR2, hD2, B2⟩
  case round =>
    obtain ⟨i, hi, rfl, hS, hR, hD, hbw⟩ := hrel
    by_cases hiN : i < N
    · clear hS2 hR2 hD2 B2
      have HS := Lib.hid hS
      have HR := Lib.hid hR
      have HD := Lib.hid hD
      clear hS hR hD
      go_wp2_with fail
      go_loopw [15] (fun i2 wr2 => ∃ j : Nat, j ≤ N ∧ i2 = .int .i64 j ∧ GdAt wr2 (w.heap.size + 1 + 1) (shS N f i j 0) ∧ GdAt wr2 (w.heap.size + 1) (fun _ => 0) ∧ GdAt wr2 w.heap.size f ∧ Below w.heap.size w wr2) (fun i2 _ => N - (intOf i2).toNat)
      case atStart => exact ⟨0, Nat.zero_le _, rfl, HS.out, HR.out, HD.out, hbw⟩
      case round =>
        obtain ⟨j, hj, rfl, hS, hR, hD, hbw2⟩ := hrel
        by_cases hjN : j < N
        · have HS2 := Lib.hid hS
          have HR2 := Lib.hid hR
          have HD2 := Lib.hid hD
          clear hS hR hD HS HR HD hbw
          go_wp2_with fail
          go_loopw [19] (fun i3 wr3 => ∃ k : Nat, k ≤ N ∧ i3 = .int .i64 k ∧ GdAt wr3 (w.heap.size + 1 + 1) (shS N f i j k) ∧ GdAt wr3 (w.heap.size + 1) (fun _ => 0) ∧ GdAt wr3 w.heap.size f ∧ Below w.heap.size w wr3) (fun i3 _ => N - (intOf i3).toNat)
          case atStart => exact ⟨0, Nat.zero_le _, rfl, HS2.out, HR2.out, HD2.out, hbw2⟩
          case round =>
            obtain ⟨k, hk, rfl, hS, hR, hD, hbw3⟩ := hrel
            by_cases hkN : k < N
            · clear HS2 HR2 HD2 hbw2
              have c1 := hS.cell (j := i * 8 + k) (by omega)
              rw [shS_at f hN hiN hkN] at c1
              have f1 := hS.free (i * 8 + k)
              have c2 := hD.cell (j := i * 8 + j) (by omega)
              have c3 := hD.cell (j := j * 8 + k) (by omega)
              have hA := fun W : World => (impl_AddBounds (f (i * 8 + j)) (f (j * 8 + k)) W).mono (R' := fun e w' => e = .returned (.int .i64 (addI (f (i * 8 + j)) (f (j * 8 + k)))) ∧ w' = W) (fun e w' ⟨h1, h2⟩ => ⟨h1, h2.symm⟩)
              have hmn : ∀ r, r = (if mnT f i k j ≤ addI (f (i * 8 + j)) (f (j * 8 + k)) then mnT f i k j else addI (f (i * 8 + j)) (f (j * 8 + k))) → upf (shS N f i j k) (i * 8 + k) r = shS N f i j (k + 1) := fun r hr => shS_next f hN hiN hkN hr
              obtain ⟨x, hx⟩ : ∃ x, x = mnT f i k j := ⟨_, rfl⟩
              obtain ⟨y, hy⟩ : ∃ y, y = f (i * 8 + j) := ⟨_, rfl⟩
              obtain ⟨z, hz2⟩ : ∃ z, z = f (j * 8 + k) := ⟨_, rfl⟩
              rw [← hx] at c1 hmn
              rw [← hy] at c2 hA hmn
              rw [← hz2] at c3 hA hmn
              obtain ⟨s, hs⟩ : ∃ s, s = addI y z := ⟨_, rfl⟩
              rw [← hs] at hA hmn
              have HA := Lib.hid hA
              have HMN := Lib.hid hmn
              have HS3 := Lib.hid hS
              have HR3 := Lib.hid hR
              have HD3 := Lib.hid hD
              have hii : (i : Int) < 8 := by omega
              have hji : (j : Int) < 8 := by omega
              have hki : (k : Int) < 8 := by omega
              clear hx hy hz2 hs hA hmn hS hR hD
              by_cases hle : x ≤ s
              · have hle2 : ¬ (s < x) := by omega
                go_wp2_with fail
                refine wp_region_still_tail 21 (by kernel_rfl) (by kernel_rfl) ?_
                change wpStill _ _ (World.drew _) _ _ _
                simp only [List.take_succ_cons, List.take_zero, List.drop_succ_cons, List.drop_zero]
                repeat (first | still_step | still_call (HA.out _))
                refine wpStill_nil ?_
                change wpList _ _ _ _ _ (World.drew _)
                go_wp2_with fail
                go_roundw
                case rel => exact ⟨k + 1, by omega, by go_num, by rw [← HMN.out x (by rw [if_pos (by omega)])]; exact HS3.out.drew.store (by omega) _, HR3.out.drew.other (by dsimp only; omega) _, HD3.out.drew.other (by dsimp only; omega) _, (by repeat (first | exact Below.refl _ _ | refine below_step (by assumption) (by first | omega | (simp; done) | (simp; omega)) ?_ | refine below_drewN ?_ _ | refine Below.drew ?_ | refine Below.setCell ?_ (by first | omega | (simp; done) | (simp; omega)) _ | refine Below.alloc ?_ (by first | omega | (simp; done) | (simp; omega)) _))⟩
                case measure => simp [intOf]; omega
              · have hle2 : s < x := by omega
                go_wp2_with fail
                refine wp_region_still_tail 21 (by kernel_rfl) (by kernel_rfl) ?_
                change wpStill _ _ (World.drew _) _ _ _
                simp only [List.take_succ_cons, List.take_zero, List.drop_succ_cons, List.drop_zero]
                repeat (first | still_step | still_call (HA.out _))
                refine wpStill_nil ?_
                change wpList _ _ _ _ _ (World.drew _)
                go_wp2_with fail
                go_roundw
                case rel => exact ⟨k + 1, by omega, by go_num, by rw [← HMN.out s (by rw [if_neg (by omega)])]; exact HS3.out.drew.store (by omega) _, HR3.out.drew.other (by dsimp only; omega) _, HD3.out.drew.other (by dsimp only; omega) _, (by repeat (first | exact Below.refl _ _ | refine below_step (by assumption) (by first | omega | (simp; done) | (simp; omega)) ?_ | refine below_drewN ?_ _ | refine Below.drew ?_ | refine Below.setCell ?_ (by first | omega | (simp; done) | (simp; omega)) _ | refine Below.alloc ?_ (by first | omega | (simp; done) | (simp; omega)) _))⟩
                case measure => simp [intOf]; omega
            · have hkn : k = N := by omega
              subst hkn
              rw [shS_row] at hS
              have HS3 := Lib.hid hS
              clear hS
              go_wp2_with fail
              go_roundw
              case rel => exact ⟨j + 1, by omega, by go_num, HS3.out, hR, hD, hbw3⟩
              case measure => simp [intOf]; omega
        · have hjn : j = N := by omega
          subst hjn
          rw [shS_plane] at hS
          have HS2 := Lib.hid hS
          clear hS
          go_wp2_with fail
          go_roundw
          case rel => exact ⟨i + 1, by omega, by go_num, HS2.out, hR, hD, hbw2⟩
          case measure => simp [intOf]; omega
    · have hin : i = N := by omega
      subst hin
      go_wp2_with (first | (refine wpList_load_row rfl 77 _ rfl (w.heap.size + 1 + 1) rfl 77 _ (0, 0) _ hS Try.underlying77 rfl (size_grid _) ?_) | (refine wpList_store_row rfl 77 _ _ rfl (w.heap.size + 1) _ rfl rfl 77 _ hR (size_grid _) (by rw [gridA_size, gridA_size]) (gridA_one _) ?_))
      exact bodyPost_ret (v := .agg (gridA (shF i f))) (results_cell_row Try.results60 _ _ (w.heap.size + 1) 77 _ (0, 0) _ rfl (hR.row _) Try.underlying77 rfl (size_grid _)) rfl ⟨rfl, below_row hbw (by omega) _⟩

end Go.Proofs.Ytdjaiijgdflopaa
