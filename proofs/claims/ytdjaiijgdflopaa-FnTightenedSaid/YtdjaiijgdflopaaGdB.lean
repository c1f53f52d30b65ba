/-
  WALK of impl's Table.grid.
-/
import Derived.Test.YtdjaiijgdflopaaGdA
namespace Go.Proofs.Ytdjaiijgdflopaa
open Go.RowKit
set_option linter.unusedVariables false
set_option linter.unusedSimpArgs false

set_option maxRecDepth 100000 in
set_option maxHeartbeats 4000000 in
theorem grid_any (N : Nat) (zs : List Int) (A : Option Addr) (m c : Nat) (w : World) (hN : N ≤ 8) (hl : zs.length = m) (hm : m = N * N) (hr : RowAt w A (zs.map intV)) :
    Calls Try.prog 59 #[grV N A m c] w fun e w' => e = .returned (.agg (gridA (gT N zs))) ∧ Below w.heap.size w w' := by
  have h64 := sq_le hN
  rw [← hm] at h64
  have HM := Lib.hid hm
  have HL := Lib.hid hl
  have HR := Lib.hid hr
  have hz := zero_grid
  clear hm hl hr
  unfold grV
  go_enter Try.func59, Try.ntmps59
  go_wp2_with fail
  go_loopw [11] (fun i wr => ∃ j : Nat, j ≤ m ∧ i = .int .i64 j ∧ GdAt wr (w.heap.size + 1 + 1) (gTj N zs j) ∧ GdAt wr (w.heap.size + 1) (fun _ => 0) ∧ wr.cell? ⟨w.heap.size, 0, none⟩ = some (.int .i64 N) ∧ wr.cell? ⟨w.heap.size, 1, none⟩ = some (.slice A m c) ∧ Below w.heap.size w wr) (fun i _ => m - (intOf i).toNat)
  case atStart => exact ⟨0, Nat.zero_le _, rfl, by rw [gTj_zero]; exact GdAt.made (by simp), (GdAt.made (by simp)).alloc _, by go_simp, by go_simp, (by repeat (first | exact Below.refl _ _ | refine below_step (by assumption) (by first | omega | (simp; done) | (simp; omega)) ?_ | refine below_drewN ?_ _ | refine Below.drew ?_ | refine Below.setCell ?_ (by first | omega | (simp; done) | (simp; omega)) _ | refine Below.alloc ?_ (by first | omega | (simp; done) | (simp; omega)) _))⟩
  case round =>
    obtain ⟨j, hj, rfl, hg, hg0, hcn, hcs, hbw⟩ := hrel
    have hlt2 := hg.lt
    by_cases hlt : j < m
    · have hN0 : 0 < N := by rcases Nat.eq_zero_or_pos N with h | h
                             · have := HM.out; subst h; omega
                             · exact h
      obtain ⟨g, o, rfl, hgl, hc0⟩ := rowInts HR.out (q := j) (by have := HL.out; omega)
      have hc := (hbw.cell (p := ⟨g, o + j, none⟩) hgl).trans hc0
      have hjm : j < N * N := by have := HM.out; omega
      have HNX := Lib.hid (gTj_next zs hN hjm)
      have hp := fun W => place_any N j (some ⟨g, o, none⟩) m c W hN hN0 (by omega)
      unfold grV at hp
      have ha8 : j / N < 8 := Nat.lt_of_lt_of_le (Nat.div_lt_of_lt_mul hjm) hN
      have hb8 : j % N < 8 := Nat.lt_of_lt_of_le (Nat.mod_lt _ hN0) hN
      obtain ⟨x, hx⟩ : ∃ x, x = zs[j]?.getD 0 := ⟨_, rfl⟩
      obtain ⟨a, ha⟩ : ∃ a, a = j / N := ⟨_, rfl⟩
      obtain ⟨b, hb⟩ : ∃ b, b = j % N := ⟨_, rfl⟩
      rw [← hx] at hc HNX
      rw [← ha, ← hb] at hp HNX
      rw [← ha] at ha8
      rw [← hb] at hb8
      have HP := Lib.hid hp
      have ha8i : (a : Int) < 8 := by omega
      have hb8i : (b : Int) < 8 := by omega
      have HG := Lib.hid hg
      have HG0 := Lib.hid hg0
      clear hx ha hb hp hc0 hg hg0 hjm
      go_wp2_with fail
      refine (HP.out _).mono ?_
      rintro e w1 ⟨rfl, b1⟩
      have k0 := (b1.cell (p := ⟨w.heap.size, 0, none⟩) (by dsimp only; omega)).trans hcn
      have k1 := (b1.cell (p := ⟨w.heap.size, 1, none⟩) (by dsimp only; omega)).trans hcs
      have g1 := HG.out.below b1 hlt2
      have g2 := HG0.out.below b1 (by omega)
      have c1 := g1.cell (j := a * 8 + b) (by omega)
      have f1 := g1.free (a * 8 + b)
      have B1 : Below w.heap.size w w1 := hbw.trans (b1.mono (by omega))
      have G1 := Lib.hid g1
      have G2 := Lib.hid g2
      clear b1 g1 g2
      go_wp2_with fail
      go_roundw
      case rel => exact ⟨j + 1, by omega, by go_num, by rw [← HNX.out]; exact G1.out.store (by omega) x, G2.out.other (by dsimp only; omega) _, by go_simp, by go_simp, (by repeat (first | exact Below.refl _ _ | refine below_step (by assumption) (by first | omega | (simp; done) | (simp; omega)) ?_ | refine below_drewN ?_ _ | refine Below.drew ?_ | refine Below.setCell ?_ (by first | omega | (simp; done) | (simp; omega)) _ | refine Below.alloc ?_ (by first | omega | (simp; done) | (simp; omega)) _))⟩
      case measure => simp [intOf]; omega
    · have hjm : j = N * N := by have := HM.out; omega
      rw [hjm, gTj_all] at hg
      go_wp2_with (first | (refine wpList_load_row rfl 77 _ rfl (w.heap.size + 1 + 1) rfl 77 _ (0, 0) _ hg Try.underlying77 rfl (size_grid _) ?_) | (refine wpList_store_row rfl 77 _ _ rfl (w.heap.size + 1) _ rfl rfl 77 _ hg0 (size_grid _) (by rw [gridA_size, gridA_size]) (gridA_one _) ?_))
      exact bodyPost_ret (v := .agg (gridA (gT N zs))) (results_cell_row Try.results59 _ _ (w.heap.size + 1) 77 _ (0, 0) _ rfl (hg0.row _) Try.underlying77 rfl (size_grid _)) rfl ⟨rfl, below_row hbw (by omega) _⟩

end Go.Proofs.Ytdjaiijgdflopaa
