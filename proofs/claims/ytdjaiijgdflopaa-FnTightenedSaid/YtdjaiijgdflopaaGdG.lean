/-
  WALK of impl.IsClosed; what the comparison says.
-/
import Derived.Test.YtdjaiijgdflopaaGdF
import Derived.Test.YtdjaiijgdflopaaGdE
namespace Go.Proofs.Ytdjaiijgdflopaa
open Go.RowKit
set_option linter.unusedVariables false
set_option linter.unusedSimpArgs false

theorem mnT_le (f : Nat → Int) (a b : Nat) : ∀ J, mnT f a b J ≤ f (a * 8 + b) ∧ (∀ j, j < J → mnT f a b J ≤ addI (f (a * 8 + j)) (f (j * 8 + b))) ∧ (mnT f a b J = f (a * 8 + b) ∨ ∃ j, j < J ∧ mnT f a b J = addI (f (a * 8 + j)) (f (j * 8 + b)))
  | 0 => ⟨Int.le_refl _, fun j h => by omega, .inl rfl⟩
  | J + 1 => by
    obtain ⟨h1, h2, h3⟩ := mnT_le f a b J
    unfold mnT
    split
    · rename_i h
      refine ⟨h1, fun j hj => ?_, ?_⟩
      · by_cases e : j = J
        · subst e; exact h
        · exact h2 j (by omega)
      · rcases h3 with h3 | ⟨j, hj, h3⟩
        · exact .inl h3
        · exact .inr ⟨j, by omega, h3⟩
    · rename_i h
      refine ⟨by omega, fun j hj => ?_, .inr ⟨J, by omega, rfl⟩⟩
      by_cases e : j = J
      · subst e; omega
      · have := h2 j (by omega); omega
theorem mnT_same (f : Nat → Int) (a b J : Nat) : mnT f a b J = f (a * 8 + b) ↔ ∀ j, j < J → f (a * 8 + b) ≤ addI (f (a * 8 + j)) (f (j * 8 + b)) := by
  obtain ⟨h1, h2, h3⟩ := mnT_le f a b J
  constructor
  · intro h j hj; rw [← h]; exact h2 j hj
  · intro h
    rcases h3 with h3 | ⟨j, hj, h3⟩
    · exact h3
    · have := h j hj; omega
theorem gT_at {N : Nat} (zs : List Int) (hN : N ≤ 8) {i k : Nat} (hi : i < N) (hk : k < N) : gT N zs (i * 8 + k) = atT N zs i k := by
  unfold gT
  rw [show (i * 8 + k) / 8 = i from by omega, show (i * 8 + k) % 8 = k from by omega, if_pos ⟨hi, hk⟩]
theorem shF_at {N : Nat} (f : Nat → Int) {p : Nat} (h : p / 8 < N ∧ p % 8 < N) : shF N f p = mnT f (p / 8) (p % 8) N := by
  unfold shF shS; rw [if_pos h, if_pos h.1]
theorem shF_out {N : Nat} (f : Nat → Int) {p : Nat} (h : ¬ (p / 8 < N ∧ p % 8 < N)) : shF N f p = f p := by
  unfold shF shS; rw [if_neg h]
theorem closed_iff {N : Nat} {zs : List Int} (h : okT N zs = true) : closedR N zs = true ↔ ∀ i, i < N → ∀ j, j < N → ∀ k, k < N → atT N zs i k ≤ addI (atT N zs i j) (atT N zs j k) := by
  unfold closedR
  rw [h, Bool.true_and]
  simp only [List.all_eq_true, List.mem_range, decide_eq_true_eq, Int.toNat_natCast]
theorem closed_eq {N : Nat} {zs : List Int} (hN : N ≤ 8) (h : okT N zs = true) : closedR N zs = eqGd (gT N zs) (shF N (gT N zs)) := by
  rw [Bool.eq_iff_iff, closed_iff h, eqGd_iff]
  constructor
  · intro h p hp
    by_cases hq : p / 8 < N ∧ p % 8 < N
    · rw [shF_at _ hq]
      have := (mnT_same (gT N zs) (p / 8) (p % 8) N).2 (fun j hj => by
        rw [gT_at zs hN hq.1 hq.2, gT_at zs hN hq.1 hj, gT_at zs hN hj hq.2]
        exact h _ hq.1 _ hj _ hq.2)
      rw [this, split8]
    · rw [shF_out _ hq]
  · intro h i hi j hj k hk
    have h1 := h (i * 8 + k) (by omega)
    have e1 : (i * 8 + k) / 8 = i := by omega
    have e2 : (i * 8 + k) % 8 = k := by omega
    rw [shF_at _ (by rw [e1, e2]; exact ⟨hi, hk⟩), e1, e2] at h1
    have := (mnT_same (gT N zs) i k N).1 h1.symm j hj
    rwa [gT_at zs hN hi hk, gT_at zs hN hi hj, gT_at zs hN hj hk] at this
theorem closedR_no {n : Int} {zs : List Int} (h : okT n zs = false) : closedR n zs = false := by unfold closedR; rw [h, Bool.false_and]

set_option maxRecDepth 100000 in
set_option maxHeartbeats 4000000 in
theorem impl_IsClosed (n : Int) (zs : List Int) (A : Option Addr) (k c : Nat) (w : World) (hn : zs.length = k) (hk : k ≤ 1048576) (hr : RowAt w A (zs.map intV)) :
    Calls Try.prog 19 #[grV n A k c] w fun e w' => e = .returned (.bool (closedR n zs)) ∧ Below w.heap.size w w' := by
  have HT := Lib.hid (fun W h => impl_TableOk n zs A k c W hn hk h)
  have HR := Lib.hid hr
  have HL := Lib.hid hn
  have hz := zero_grid
  clear hr hn
  obtain ⟨ok, hok⟩ : ∃ b, b = okT n zs := ⟨_, rfl⟩
  rw [← hok] at HT
  have HO := Lib.hid hok.symm
  clear hok
  cases ok with
  | false =>
    unfold grV at HT ⊢
    go_enter Try.func19, Try.ntmps19
    go_wp2_with fail
    refine (HT.out _ (HR.out.below (by repeat (first | exact Below.refl _ _ | refine below_step (by assumption) (by first | omega | (simp; done) | (simp; omega)) ?_ | refine below_drewN ?_ _ | refine Below.drew ?_ | refine Below.setCell ?_ (by first | omega | (simp; done) | (simp; omega)) _ | refine Below.alloc ?_ (by first | omega | (simp; done) | (simp; omega)) _)))).mono ?_
    rintro e w1 ⟨rfl, b1⟩
    go_wp2_with fail
    go_ret
    exact ⟨ret_b (closedR_no HO.out).symm, (by repeat (first | exact Below.refl _ _ | refine below_step (by assumption) (by first | omega | (simp; done) | (simp; omega)) ?_ | refine below_drewN ?_ _ | refine Below.drew ?_ | refine Below.setCell ?_ (by first | omega | (simp; done) | (simp; omega)) _ | refine Below.alloc ?_ (by first | omega | (simp; done) | (simp; omega)) _))⟩
  | true =>
    have hrg := okT_rng HO.out
    obtain ⟨N, rfl⟩ : ∃ N : Nat, n = N := ⟨n.toNat, by omega⟩
    have hN8 : N ≤ 8 := by omega
    have hkN : k = N * N := by have h1 := hrg.2.2; have h2 := HL.out; rw [h2] at h1; exact_mod_cast h1
    have HG := Lib.hid (fun W h => grid_any N zs A k c W hN8 HL.out hkN h)
    have HE := Lib.hid (closed_eq hN8 HO.out)
    unfold grV at HT HG ⊢
    clear hrg hkN
    go_enter Try.func19, Try.ntmps19
    go_wp2_with fail
    refine (HT.out _ (HR.out.below (by repeat (first | exact Below.refl _ _ | refine below_step (by assumption) (by first | omega | (simp; done) | (simp; omega)) ?_ | refine below_drewN ?_ _ | refine Below.drew ?_ | refine Below.setCell ?_ (by first | omega | (simp; done) | (simp; omega)) _ | refine Below.alloc ?_ (by first | omega | (simp; done) | (simp; omega)) _)))).mono ?_
    rintro e w1 ⟨rfl, b1⟩
    have ka1 : w1.cell? ⟨w.heap.size, 0, none⟩ = some (.int .i64 N) := (b1.cell (p := ⟨w.heap.size, 0, none⟩) (by first | omega | (simp; done) | (simp; omega))).trans (by first | assumption | go_simp)
    have kb1 : w1.cell? ⟨w.heap.size, 1, none⟩ = some (.slice A k c) := (b1.cell (p := ⟨w.heap.size, 1, none⟩) (by first | omega | (simp; done) | (simp; omega))).trans (by first | assumption | go_simp)
    have sz1 : w.heap.size < w1.heap.size := Nat.lt_of_lt_of_le (by first | omega | (simp; done) | (simp; omega)) b1.size
    have B1 : Below w.heap.size w w1 := (by repeat (first | exact Below.refl _ _ | refine below_step (by assumption) (by first | omega | (simp; done) | (simp; omega)) ?_ | refine below_drewN ?_ _ | refine Below.drew ?_ | refine Below.setCell ?_ (by first | omega | (simp; done) | (simp; omega)) _ | refine Below.alloc ?_ (by first | omega | (simp; done) | (simp; omega)) _))
    clear b1
    go_wp2_with fail
    refine (HG.out _ (HR.out.below B1)).mono ?_
    rintro e w2 ⟨rfl, b2⟩
    have ka2 := (b2.cell (p := ⟨w.heap.size, 0, none⟩) (by dsimp only; omega)).trans ka1
    have kb2 := (b2.cell (p := ⟨w.heap.size, 1, none⟩) (by dsimp only; omega)).trans kb1
    have sz2 : w.heap.size < w2.heap.size := Nat.lt_of_lt_of_le sz1 b2.size
    have B2 : Below w.heap.size w w2 := B1.trans (b2.mono B1.size)
    have hA : GdAt (w2.alloc (.cells (gridA fun _ => 0) 77)) w2.heap.size (fun _ => 0) := GdAt.new _ _
    obtain ⟨w3, hw3⟩ : ∃ w3, w3 = (w2.alloc (.cells (gridA fun _ => 0) 77)).setRow w2.heap.size (gridA (gT N zs)) := ⟨_, rfl⟩
    have hD3 : GdAt w3 w2.heap.size (gT N zs) := by rw [hw3]; exact hA.row _
    have ka3 : w3.cell? ⟨w.heap.size, 0, none⟩ = some (.int .i64 N) := by
      have u : Below w2.heap.size w2 w3 := by rw [hw3]; exact below_row ((Below.refl _ _).alloc (Nat.le_refl _) _) (Nat.le_refl _) _
      exact (u.cell (p := ⟨w.heap.size, 0, none⟩) (by dsimp only; omega)).trans ka2
    have hs3 : w3.heap.size = w2.heap.size + 1 := by rw [hw3]; simp
    have B3 : Below w.heap.size w w3 := by rw [hw3]; exact below_row (B2.alloc B2.size _) B2.size _
    go_wp2_with (first | (refine wpList_store_row rfl 77 _ _ rfl w2.heap.size _ rfl rfl 77 _ hA (size_grid _) (by rw [gridA_size, gridA_size]) (gridA_one _) ?_))
    dsimp only [Act.put]
    rw [← hw3]
    obtain ⟨f, hf⟩ : ∃ f, f = gT N zs := ⟨_, rfl⟩
    rw [← hf] at HE hD3 ⊢
    clear hw3 hA ka1 kb1 ka2 kb2 b2 B1 hf HG HT
    have hg2 : w2.heap.size < w3.heap.size := by omega
    have sz3 : w.heap.size < w3.heap.size := by omega
    have HB3 := Lib.hid B3
    clear hs3 B3
    obtain ⟨C, hC⟩ : ∃ C : World → Prop, C = fun W => Below w3.heap.size w3 W := ⟨_, rfl⟩
    have qb : ∀ W, C W → Below w3.heap.size w3 W := fun W h => by rw [hC] at h; exact h
    have qc : ∀ W, Below w3.heap.size w3 W → C W := fun W h => by rw [hC]; exact h
    have hC0 : C (World.drew w3) := qc _ (Below.refl _ _).drew
    have q0 : ∀ zc : WC C, zc.w.cell? ⟨w.heap.size, 0, none⟩ = some (.int .i64 N) := fun zc => ((qb _ zc.h).cell (p := ⟨w.heap.size, 0, none⟩) (by dsimp only; omega)).trans ka3
    have qg : ∀ W, (∃ zc : WC C, W = zc.w) → W.heap[w2.heap.size]? = some (.cells (gridA f) 77 (0, 0)) := fun W ⟨zc, h⟩ => by rw [h]; exact hD3.below (qb _ zc.h) hg2
    have A0 : Hid (∀ zc : WC C, Calls Try.prog 60 #[.agg (gridA f), .int .i64 N] zc.w fun e w2 => e = .returned (.agg (gridA (shF N f))) ∧ ∃ y : WC C, w2 = y.w) := Lib.hid (fun zc => wc_calls ((shortened_any N f zc.w hN8).mono fun e w2 k => ⟨k.1, qc _ ((qb _ zc.h).trans (k.2.mono (qb _ zc.h).size))⟩))
    have nwc : Nonempty (WC C) := ⟨⟨_, hC0⟩⟩
    clear hC
    refine region_wc C (by kernel_rfl) (by kernel_rfl) hC0 ?_
    go_big_quiet_want
    refine quiet_load_row 77 _ rfl w2.heap.size rfl 77 _ (0, 0) _ qg Try.underlying77 rfl (size_grid _) ?_
    simp only [Act.put, List.setIfInBounds_toArray, List.set_cons_succ, List.set_cons_zero]
    go_big_quiet_on
    go_big_quiet_want
    refine quiet_load_row 77 _ rfl w2.heap.size rfl 77 _ (0, 0) _ qg Try.underlying77 rfl (size_grid _) ?_
    simp only [Act.put, List.setIfInBounds_toArray, List.set_cons_succ, List.set_cons_zero]
    go_big_quiet_on
    go_big_quiet_step (fail)
    go_big_quiet_step (fail)
    go_big_quiet_step (first | (go_at_call 60; exact A0.out _))
    go_big_quiet_want
    refine quiet_eql_grid _ _ _ rfl f (shF N f) rfl rfl ?_
    simp only [Act.put, List.setIfInBounds_toArray, List.set_cons_succ, List.set_cons_zero]
    go_big_quiet_on
    go_big_quiet_step (fail)
    refine wpQuiet_nil ?_
    rintro _ ⟨xq, rfl⟩
    have bq := qb _ xq.h
    go_wp2_with fail
    go_ret
    exact ⟨ret_b HE.out.symm, HB3.out.trans (bq.mono HB3.out.size)⟩

end Go.Proofs.Ytdjaiijgdflopaa
