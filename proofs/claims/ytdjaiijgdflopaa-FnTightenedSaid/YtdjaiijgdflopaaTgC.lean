/-
  WALK of impl.TightenTable.
-/
import Derived.Test.YtdjaiijgdflopaaTgB
import Derived.Test.YtdjaiijgdflopaaGdG
import Derived.Test.YtdjaiijgdflopaaGrI
import Derived.Deep.RegionHeld3
import Derived.Deep.CutRange
namespace Go.Proofs.Ytdjaiijgdflopaa
open Go.RowKit
set_option linter.unusedVariables false
set_option linter.unusedSimpArgs false

/-- From the k-th operation of a region that draws its order on, all before it carried out: what is quiet goes by one lexical walk. -/
theorem quiet_rest {P : Program} (C : World → Prop) {Q : Exit → Act → World → Prop} {L : List Oper} (k : Nat) {fuel : Nat} {listed : Array Bool} {a : Act} {w : World}
    (hf : (L.drop k).length = fuel) (hns : Region.noSelect L.toArray = true) (hB : Region.lexFrom .any L.toArray (L.drop k).length k listed = true) (hC : C w)
    (h : wpQuiet P L.toArray (fun w' => ∃ x : WC C, w' = x.w) (fun a' => ∀ w', (∃ x : WC C, w' = x.w) → Q .normal a' w') (L.drop k) a) : wpAny P .any L.toArray Q fuel listed a w := by
  subst hf
  refine wpAny_of_quiet (C := fun w' => ∃ x : WC C, w' = x.w) (Q := fun a' => ∀ w', (∃ x : WC C, w' = x.w) → Q .normal a' w') (fun _ w' hw' h => h w' hw') _ _ _ _ ⟨⟨_, hC⟩, rfl⟩ ?_
  exact wpAnyQ_lex (C := fun w' => ∃ x : WC C, w' = x.w) hns (L.drop k) k listed a (fun j => by simp) hB h
theorem tab_tight {N u v : Nat} (zs : List Int) {x : Int} (hN : N ≤ 8) (hu : u < N) (hv : v < N) : tabG N (tgF N (gT N zs) u v x) N = tightC N zs ⟨u, v, x⟩ := by
  unfold tabG tightC
  have e : ∀ i ∈ List.range N, rowG N (tgF N (gT N zs) u v x) i = (List.range N).map fun k => tightAt N zs ⟨u, v, x⟩ i k := by
    intro i hi
    have hi2 : i < N := by simpa using hi
    unfold rowG
    apply List.map_congr_left
    intro k hk
    have hk2 : k < N := by simpa using hk
    have e1 : (i * 8 + k) / 8 = i := by omega
    have e2 : (i * 8 + k) % 8 = k := by omega
    unfold tgF tgS
    rw [e1, e2, if_pos (by omega)]
    unfold tgA tightAt
    rw [gT_at zs hN hi2 hk2, gT_at zs hN hi2 hu, gT_at zs hN hv hk2]
    simp
  rw [List.flatMap_def, List.flatMap_def, List.map_congr_left e]
theorem edge_one (w : World) (u v x : Int) : EdgeAt (w.alloc (.cells #[.int .i64 u, .int .i64 v, .int .i64 x] 35)) (some ⟨w.heap.size, 0, none⟩) [⟨u, v, x⟩] := fun _ =>
  ⟨w.heap.size, 0, rfl, by simp, fun j hj => by
    have : j = 0 := by simp at hj; omega
    subst this
    refine ⟨?_, ?_, ?_⟩ <;> go_simp⟩
theorem tight_impl (n : Int) (cs : List Int) (e : GE) (hn : 0 ≤ n ∧ n ≤ 8) : tightOk n cs e = (closedR n cs && okG n [e] && !decide (addI e.c (atT n.toNat cs e.v.toNat e.u.toNat) < 0)) := by
  unfold tightOk okG okE
  rw [decide_eq_true (show 0 ≤ n ∧ n ≤ 8 ∧ ([e] : List GE).length ≤ 80 from ⟨hn.1, hn.2, by simp⟩)]
  simp only [List.all_cons, List.all_nil, Bool.and_true, Bool.true_and, Bool.and_assoc]

set_option maxRecDepth 100000 in
set_option maxHeartbeats 16000000 in
theorem impl_TightenTable (n : Int) (zs : List Int) (A : Option Addr) (k c : Nat) (u v x : Int) (w : World) (hn : zs.length = k) (hk : k ≤ 1048576) (hr : RowAt w A (zs.map intV)) :
    Calls Try.prog 26 #[grV n A k c, .agg #[.int .i64 u, .int .i64 v, .int .i64 x]] w fun e w' => TgEnd n zs ⟨u, v, x⟩ w e w' := by
  have HT := Lib.hid (fun W h => impl_IsClosed n zs A k c W hn hk h)
  have HR := Lib.hid hr
  have HL := Lib.hid hn
  have hsp := fun h => tight_impl n zs ⟨u, v, x⟩ h
  dsimp only at hsp
  clear hr hn
  obtain ⟨b1, hb1⟩ : ∃ b, b = closedR n zs := ⟨_, rfl⟩
  obtain ⟨b2, hb2⟩ : ∃ b, b = okG n [⟨u, v, x⟩] := ⟨_, rfl⟩
  rw [← hb1] at HT hsp
  rw [← hb2] at hsp
  have HSP := Lib.hid hsp
  have HB1 := Lib.hid hb1.symm
  have HB2 := Lib.hid hb2.symm
  have HG := Lib.hid (fun (B : Addr) (W : World) h => impl_GraphOk n [⟨u, v, x⟩] (some B) 1 1 W rfl (by decide) h)
  rw [← hb2] at HG
  clear hb1 hb2 hsp
  have hrng : b1 = true → 0 ≤ n ∧ n ≤ 8 := fun h => by have := okT_rng (closedR_ok (HB1.out.trans h)); omega
  unfold grV at HT HG ⊢
  cases b1 with
  | false =>
    have hno : tightOk n zs ⟨u, v, x⟩ = false := by unfold tightOk; rw [HB1.out]; rfl
    have HNO := Lib.hid hno
    clear hno
    go_enter Try.func26, Try.ntmps26
    go_wp2_with fail
    obtain ⟨w1, hw1⟩ : ∃ w1, w1 = ((w.alloc (.cells #[.int .i64 n, .slice A k c] 29)).alloc (.cells #[.int .i64 u, .int .i64 v, .int .i64 x] 35)).alloc (.cells #[.int .i64 0, .slice none 0 0] 29) := ⟨_, rfl⟩
    rw [← hw1]
    have c0 : w1.cell? ⟨w.heap.size, 0, none⟩ = some (.int .i64 n) := by rw [hw1]; go_simp
    have c1 : w1.cell? ⟨w.heap.size, 1, none⟩ = some (.slice A k c) := by rw [hw1]; go_simp
    have c2 : w1.cell? ⟨w.heap.size + 1, 0, none⟩ = some (.int .i64 u) := by rw [hw1]; go_simp
    have c3 : w1.cell? ⟨w.heap.size + 1, 1, none⟩ = some (.int .i64 v) := by rw [hw1]; go_simp
    have c4 : w1.cell? ⟨w.heap.size + 1, 2, none⟩ = some (.int .i64 x) := by rw [hw1]; go_simp
    have c5 : w1.cell? ⟨w.heap.size + 1 + 1, 0, none⟩ = some (.int .i64 0) := by rw [hw1]; go_simp
    have c6 : w1.cell? ⟨w.heap.size + 1 + 1, 1, none⟩ = some (.slice none 0 0) := by rw [hw1]; go_simp
    have z0 : w1.frozen? ⟨w.heap.size + 1 + 1, 0, none⟩ = false := by rw [hw1]; go_simp
    have z1 : w1.frozen? ⟨w.heap.size + 1 + 1, 1, none⟩ = false := by rw [hw1]; go_simp
    have sz1 : w.heap.size + 1 + 1 < w1.heap.size := by rw [hw1]; simp
    have B1 : Below w.heap.size w w1 := by rw [hw1]; exact (by repeat (first | exact Below.refl _ _ | refine below_step (by assumption) (by first | omega | (simp; done) | (simp; omega)) ?_ | refine below_drewN ?_ _ | refine Below.drew ?_ | refine Below.setCell ?_ (by first | omega | (simp; done) | (simp; omega)) _ | refine Below.alloc ?_ (by first | omega | (simp; done) | (simp; omega)) _))
    have hrw := HR.out.below B1
    clear hw1
    obtain ⟨C, hC⟩ : ∃ C : World → Prop, C = fun W => Below w1.heap.size w1 W := ⟨_, rfl⟩
    have qb : ∀ W, C W → Below w1.heap.size w1 W := fun W h => by rw [hC] at h; exact h
    have qc : ∀ W, Below w1.heap.size w1 W → C W := fun W h => by rw [hC]; exact h
    have hC0 : C (World.drew w1) := qc _ (Below.refl _ _).drew
    have q0 : ∀ zc : WC C, zc.w.cell? ⟨w.heap.size, 0, none⟩ = some (.int .i64 n) := fun zc => ((qb _ zc.h).cell (p := ⟨w.heap.size, 0, none⟩) (by dsimp only; omega)).trans c0
    have q1 : ∀ zc : WC C, zc.w.cell? ⟨w.heap.size, 1, none⟩ = some (.slice A k c) := fun zc => ((qb _ zc.h).cell (p := ⟨w.heap.size, 1, none⟩) (by dsimp only; omega)).trans c1
    have q2 : ∀ zc : WC C, zc.w.cell? ⟨w.heap.size + 1, 0, none⟩ = some (.int .i64 u) := fun zc => ((qb _ zc.h).cell (p := ⟨w.heap.size + 1, 0, none⟩) (by dsimp only; omega)).trans c2
    have q3 : ∀ zc : WC C, zc.w.cell? ⟨w.heap.size + 1, 1, none⟩ = some (.int .i64 v) := fun zc => ((qb _ zc.h).cell (p := ⟨w.heap.size + 1, 1, none⟩) (by dsimp only; omega)).trans c3
    have q4 : ∀ zc : WC C, zc.w.cell? ⟨w.heap.size + 1, 2, none⟩ = some (.int .i64 x) := fun zc => ((qb _ zc.h).cell (p := ⟨w.heap.size + 1, 2, none⟩) (by dsimp only; omega)).trans c4
    have q5 : ∀ zc : WC C, zc.w.cell? ⟨w.heap.size + 1 + 1, 0, none⟩ = some (.int .i64 0) := fun zc => ((qb _ zc.h).cell (p := ⟨w.heap.size + 1 + 1, 0, none⟩) (by dsimp only; omega)).trans c5
    have q6 : ∀ zc : WC C, zc.w.cell? ⟨w.heap.size + 1 + 1, 1, none⟩ = some (.slice none 0 0) := fun zc => ((qb _ zc.h).cell (p := ⟨w.heap.size + 1 + 1, 1, none⟩) (by dsimp only; omega)).trans c6
    have A0 : Hid (∀  (zc : WC C), Calls Try.prog 19 #[.agg #[.int .i64 n, .slice A k c]] zc.w fun e w2 => e = .returned (.bool false) ∧ ∃ y : WC C, w2 = y.w) := Lib.hid (fun zc => wc_calls ((HT.out zc.w (hrw.below (qb _ zc.h))).mono fun e w2 k => ⟨k.1, qc _ ((qb _ zc.h).trans (k.2.mono (qb _ zc.h).size))⟩))
    have nwc : Nonempty (WC C) := ⟨⟨_, hC0⟩⟩
    clear hC
    refine region_wc C (by kernel_rfl) (by kernel_rfl) hC0 ?_
    repeat (go_big_quiet_step (first | (go_at_call 19; exact A0.out _)))
    refine wpQuiet_nil ?_
    rintro _ ⟨xq, rfl⟩
    have bq := qb _ xq.h
    have g0 := q0 xq
    have g1 := q1 xq
    have g2 := q2 xq
    have g3 := q3 xq
    have g4 := q4 xq
    have g5 := q5 xq
    have g6 := q6 xq
    obtain ⟨wq, hwq⟩ : ∃ wq, wq = xq.w := ⟨_, rfl⟩
    rw [← hwq] at bq g0 g1 g2 g3 g4 g5 g6 ⊢
    have e0 := (bq.frozen (p := ⟨w.heap.size + 1 + 1, 0, none⟩) (by dsimp only; omega)).trans z0
    have e1 := (bq.frozen (p := ⟨w.heap.size + 1 + 1, 1, none⟩) (by dsimp only; omega)).trans z1
    have szq : w.heap.size + 1 + 1 < wq.heap.size := Nat.lt_of_lt_of_le sz1 bq.size
    have BQ : Below w.heap.size w wq := B1.trans (bq.mono B1.size)
    clear hwq xq nwc hC0 qb qc q0 q1 q2 q3 q4 q5 q6 A0 C bq
    go_wp2_with fail
    refine bodyPost_ret (v := .tuple #[.agg #[.int .i64 0, .slice none 0 0], .bool false]) (by first | (simp [results, Try.results26, go_sem]; done) | simp [*, results, Try.results26, go_sem]) rfl (TgEnd.no HNO.out (by repeat (first | exact Below.refl _ _ | refine below_step (by assumption) (by first | omega | (simp; done) | (simp; omega)) ?_ | refine below_drewN ?_ _ | refine Below.drew ?_ | refine Below.setCell ?_ (by first | omega | (simp; done) | (simp; omega)) _ | refine Below.alloc ?_ (by first | omega | (simp; done) | (simp; omega)) _)))
  | true =>
    have hn08 := hrng rfl
    clear hrng
    have hrng := ()
    cases b2 with
    | false =>
      have hno : tightOk n zs ⟨u, v, x⟩ = false := by rw [HSP.out hn08]; rfl
      have HNO := Lib.hid hno
      clear hno
      go_enter Try.func26, Try.ntmps26
      go_wp2_with fail
      obtain ⟨w1, hw1⟩ : ∃ w1, w1 = ((w.alloc (.cells #[.int .i64 n, .slice A k c] 29)).alloc (.cells #[.int .i64 u, .int .i64 v, .int .i64 x] 35)).alloc (.cells #[.int .i64 0, .slice none 0 0] 29) := ⟨_, rfl⟩
      rw [← hw1]
      have c0 : w1.cell? ⟨w.heap.size, 0, none⟩ = some (.int .i64 n) := by rw [hw1]; go_simp
      have c1 : w1.cell? ⟨w.heap.size, 1, none⟩ = some (.slice A k c) := by rw [hw1]; go_simp
      have c2 : w1.cell? ⟨w.heap.size + 1, 0, none⟩ = some (.int .i64 u) := by rw [hw1]; go_simp
      have c3 : w1.cell? ⟨w.heap.size + 1, 1, none⟩ = some (.int .i64 v) := by rw [hw1]; go_simp
      have c4 : w1.cell? ⟨w.heap.size + 1, 2, none⟩ = some (.int .i64 x) := by rw [hw1]; go_simp
      have c5 : w1.cell? ⟨w.heap.size + 1 + 1, 0, none⟩ = some (.int .i64 0) := by rw [hw1]; go_simp
      have c6 : w1.cell? ⟨w.heap.size + 1 + 1, 1, none⟩ = some (.slice none 0 0) := by rw [hw1]; go_simp
      have z0 : w1.frozen? ⟨w.heap.size + 1 + 1, 0, none⟩ = false := by rw [hw1]; go_simp
      have z1 : w1.frozen? ⟨w.heap.size + 1 + 1, 1, none⟩ = false := by rw [hw1]; go_simp
      have sz1 : w.heap.size + 1 + 1 < w1.heap.size := by rw [hw1]; simp
      have B1 : Below w.heap.size w w1 := by rw [hw1]; exact (by repeat (first | exact Below.refl _ _ | refine below_step (by assumption) (by first | omega | (simp; done) | (simp; omega)) ?_ | refine below_drewN ?_ _ | refine Below.drew ?_ | refine Below.setCell ?_ (by first | omega | (simp; done) | (simp; omega)) _ | refine Below.alloc ?_ (by first | omega | (simp; done) | (simp; omega)) _))
      have hrw := HR.out.below B1
      clear hw1
      refine wp_region_any (by kernel_rfl) ?_
      change wpAny _ _ _ _ _ _ _ (World.drew _)
      refine wpAny_ready (rs := [0]) (by kernel_rfl) (by simp) ?_
      refine AllReady.cons rfl (fun K hK => ?_) AllReady.nil
      go_simp
      refine hK _ _ ?_
      clear hK K
      refine wpAny_ready (rs := [1]) (by kernel_rfl) (by simp) ?_
      refine AllReady.cons rfl (fun K hK => ?_) AllReady.nil
      go_simp
      refine (HT.out _ (by exact hrw.of_heap rfl)).mono ?_
      rintro e w2 ⟨rfl, b2⟩
      have b2 : Below w1.heap.size w1 w2 := (Below.refl _ _).drew.trans b2
      have d0 : w2.cell? ⟨w.heap.size, 0, none⟩ = some (.int .i64 n) := (b2.cell (p := ⟨w.heap.size, 0, none⟩) (by dsimp only; omega)).trans c0
      have d1 : w2.cell? ⟨w.heap.size, 1, none⟩ = some (.slice A k c) := (b2.cell (p := ⟨w.heap.size, 1, none⟩) (by dsimp only; omega)).trans c1
      have d2 : w2.cell? ⟨w.heap.size + 1, 0, none⟩ = some (.int .i64 u) := (b2.cell (p := ⟨w.heap.size + 1, 0, none⟩) (by dsimp only; omega)).trans c2
      have d3 : w2.cell? ⟨w.heap.size + 1, 1, none⟩ = some (.int .i64 v) := (b2.cell (p := ⟨w.heap.size + 1, 1, none⟩) (by dsimp only; omega)).trans c3
      have d4 : w2.cell? ⟨w.heap.size + 1, 2, none⟩ = some (.int .i64 x) := (b2.cell (p := ⟨w.heap.size + 1, 2, none⟩) (by dsimp only; omega)).trans c4
      have d5 : w2.cell? ⟨w.heap.size + 1 + 1, 0, none⟩ = some (.int .i64 0) := (b2.cell (p := ⟨w.heap.size + 1 + 1, 0, none⟩) (by dsimp only; omega)).trans c5
      have d6 : w2.cell? ⟨w.heap.size + 1 + 1, 1, none⟩ = some (.slice none 0 0) := (b2.cell (p := ⟨w.heap.size + 1 + 1, 1, none⟩) (by dsimp only; omega)).trans c6
      have y0 : w2.frozen? ⟨w.heap.size + 1 + 1, 0, none⟩ = false := (b2.frozen (p := ⟨w.heap.size + 1 + 1, 0, none⟩) (by dsimp only; omega)).trans z0
      have y1 : w2.frozen? ⟨w.heap.size + 1 + 1, 1, none⟩ = false := (b2.frozen (p := ⟨w.heap.size + 1 + 1, 1, none⟩) (by dsimp only; omega)).trans z1
      have sz2 : w.heap.size + 1 + 1 < w2.heap.size := Nat.lt_of_lt_of_le sz1 b2.size
      have l2 : w.heap.size < w2.heap.size := by omega
      have B2 : Below w.heap.size w w2 := B1.trans (b2.mono B1.size)
      obtain ⟨w7, hw7⟩ : ∃ w7, w7 = w2.alloc (.cells #[.int .i64 u, .int .i64 v, .int .i64 x] 35) := ⟨_, rfl⟩
      have hE7 : EdgeAt w7 (some ⟨w2.heap.size, 0, none⟩) [⟨u, v, x⟩] := by rw [hw7]; exact edge_one w2 u v x
      have b7 : Below w2.heap.size w2 w7 := by rw [hw7]; exact (Below.refl _ _).alloc (Nat.le_refl _) _
      have g0 : w7.cell? ⟨w.heap.size, 0, none⟩ = some (.int .i64 n) := (b7.cell (p := ⟨w.heap.size, 0, none⟩) (by dsimp only; omega)).trans d0
      have g1 : w7.cell? ⟨w.heap.size, 1, none⟩ = some (.slice A k c) := (b7.cell (p := ⟨w.heap.size, 1, none⟩) (by dsimp only; omega)).trans d1
      have g2 : w7.cell? ⟨w.heap.size + 1, 0, none⟩ = some (.int .i64 u) := (b7.cell (p := ⟨w.heap.size + 1, 0, none⟩) (by dsimp only; omega)).trans d2
      have g3 : w7.cell? ⟨w.heap.size + 1, 1, none⟩ = some (.int .i64 v) := (b7.cell (p := ⟨w.heap.size + 1, 1, none⟩) (by dsimp only; omega)).trans d3
      have g4 : w7.cell? ⟨w.heap.size + 1, 2, none⟩ = some (.int .i64 x) := (b7.cell (p := ⟨w.heap.size + 1, 2, none⟩) (by dsimp only; omega)).trans d4
      have g5 : w7.cell? ⟨w.heap.size + 1 + 1, 0, none⟩ = some (.int .i64 0) := (b7.cell (p := ⟨w.heap.size + 1 + 1, 0, none⟩) (by dsimp only; omega)).trans d5
      have g6 : w7.cell? ⟨w.heap.size + 1 + 1, 1, none⟩ = some (.slice none 0 0) := (b7.cell (p := ⟨w.heap.size + 1 + 1, 1, none⟩) (by dsimp only; omega)).trans d6
      have h0 : w7.frozen? ⟨w.heap.size + 1 + 1, 0, none⟩ = false := (b7.frozen (p := ⟨w.heap.size + 1 + 1, 0, none⟩) (by dsimp only; omega)).trans y0
      have h1 : w7.frozen? ⟨w.heap.size + 1 + 1, 1, none⟩ = false := (b7.frozen (p := ⟨w.heap.size + 1 + 1, 1, none⟩) (by dsimp only; omega)).trans y1
      have sz7 : w.heap.size + 1 + 1 < w7.heap.size := Nat.lt_of_lt_of_le sz2 b7.size
      have B7 : Below w.heap.size w w7 := B2.trans (b7.mono B2.size)
      have hrw7 := HR.out.below B7
      have HW7 := Lib.hid hw7
      have HE7 := Lib.hid hE7
      clear hw7 hE7 b7
      obtain ⟨C, hC⟩ : ∃ C : World → Prop, C = fun W => Below w7.heap.size w7 W := ⟨_, rfl⟩
      have qb : ∀ W, C W → Below w7.heap.size w7 W := fun W h => by rw [hC] at h; exact h
      have qc : ∀ W, Below w7.heap.size w7 W → C W := fun W h => by rw [hC]; exact h
      have hC0 : C w7 := qc _ (Below.refl _ _)
      have q0 : ∀ zc : WC C, zc.w.cell? ⟨w.heap.size, 0, none⟩ = some (.int .i64 n) := fun zc => ((qb _ zc.h).cell (p := ⟨w.heap.size, 0, none⟩) (by dsimp only; omega)).trans g0
      have q1 : ∀ zc : WC C, zc.w.cell? ⟨w.heap.size, 1, none⟩ = some (.slice A k c) := fun zc => ((qb _ zc.h).cell (p := ⟨w.heap.size, 1, none⟩) (by dsimp only; omega)).trans g1
      have q2 : ∀ zc : WC C, zc.w.cell? ⟨w.heap.size + 1, 0, none⟩ = some (.int .i64 u) := fun zc => ((qb _ zc.h).cell (p := ⟨w.heap.size + 1, 0, none⟩) (by dsimp only; omega)).trans g2
      have q3 : ∀ zc : WC C, zc.w.cell? ⟨w.heap.size + 1, 1, none⟩ = some (.int .i64 v) := fun zc => ((qb _ zc.h).cell (p := ⟨w.heap.size + 1, 1, none⟩) (by dsimp only; omega)).trans g3
      have q4 : ∀ zc : WC C, zc.w.cell? ⟨w.heap.size + 1, 2, none⟩ = some (.int .i64 x) := fun zc => ((qb _ zc.h).cell (p := ⟨w.heap.size + 1, 2, none⟩) (by dsimp only; omega)).trans g4
      have q5 : ∀ zc : WC C, zc.w.cell? ⟨w.heap.size + 1 + 1, 0, none⟩ = some (.int .i64 0) := fun zc => ((qb _ zc.h).cell (p := ⟨w.heap.size + 1 + 1, 0, none⟩) (by dsimp only; omega)).trans g5
      have q6 : ∀ zc : WC C, zc.w.cell? ⟨w.heap.size + 1 + 1, 1, none⟩ = some (.slice none 0 0) := fun zc => ((qb _ zc.h).cell (p := ⟨w.heap.size + 1 + 1, 1, none⟩) (by dsimp only; omega)).trans g6
      have A1 : Hid (∀  (zc : WC C), Calls Try.prog 16 #[.agg #[.int .i64 n, .slice (some ⟨w2.heap.size, 0, none⟩) 1 1]] zc.w fun e w2 => e = .returned (.bool false) ∧ ∃ y : WC C, w2 = y.w) := Lib.hid (fun zc => wc_calls ((HG.out ⟨w2.heap.size, 0, none⟩ zc.w (HE7.out.below (qb _ zc.h))).mono fun e w2 k => ⟨k.1, qc _ ((qb _ zc.h).trans (k.2.mono (qb _ zc.h).size))⟩))
      have nwc : Nonempty (WC C) := ⟨⟨_, hC0⟩⟩
      clear hC
      first | (refine hK _ _ ?_) | (go_wp2_with fail; refine hK _ _ ?_)
      clear hK K
      refine wpAny_ready (rs := [2]) (by kernel_rfl) (by simp) ?_
      refine AllReady.cons rfl (fun K hK => ?_) AllReady.nil
      go_simp
      refine hK _ _ ?_
      clear hK K
      refine wpAny_ready (rs := [3]) (by kernel_rfl) (by simp) ?_
      refine AllReady.cons rfl (fun K hK => ?_) AllReady.nil
      go_simp
      refine hK _ _ ?_
      clear hK K
      refine wpAny_take (i := 4) (v := .pointer (some ⟨w.heap.size, 0, none⟩)) rfl (by kernel_rfl) (by kernel_rfl) (by kernel_rfl) (fun _ _ _ h => h) (Or.inl ⟨by rfl, fun w => by go_simp⟩) ?_
      refine wpAny_ready (rs := [5, 6]) (by kernel_rfl) (by simp) ?_
      refine AllReady.cons rfl (fun K hK => ?_) (AllReady.cons rfl (fun K hK => ?_) AllReady.nil)
      · go_simp
        refine hK _ _ ?_
        clear hK K
        refine wpAny_ready (rs := [6]) (by kernel_rfl) (by simp) ?_
        refine AllReady.cons rfl (fun K hK => ?_) AllReady.nil
        go_simp
        refine hK _ _ ?_
        clear hK K
        refine wpAny_ready (rs := [7]) (by kernel_rfl) (by simp) ?_
        refine AllReady.cons rfl (fun K hK => ?_) AllReady.nil
        go_simp
        refine hK _ _ ?_
        clear hK K
        try simp only [Act.put, List.setIfInBounds_toArray, List.set_cons_succ, List.set_cons_zero]
        rw [← HW7.out]
        refine quiet_rest C 8 (by kernel_rfl) (by kernel_rfl) (by kernel_rfl) hC0 ?_
        simp only [List.drop_succ_cons, List.drop_zero]
        repeat (go_big_quiet_step (first | (go_at_call 16; exact A1.out _)))
        refine wpQuiet_nil ?_
        rintro _ ⟨xq, rfl⟩
        have bq := qb _ xq.h
        have g0 := q0 xq
        have g1 := q1 xq
        have g2 := q2 xq
        have g3 := q3 xq
        have g4 := q4 xq
        have g5 := q5 xq
        have g6 := q6 xq
        obtain ⟨wq, hwq⟩ : ∃ wq, wq = xq.w := ⟨_, rfl⟩
        rw [← hwq] at bq g0 g1 g2 g3 g4 g5 g6 ⊢
        have e0 := (bq.frozen (p := ⟨w.heap.size + 1 + 1, 0, none⟩) (by dsimp only; omega)).trans h0
        have e1 := (bq.frozen (p := ⟨w.heap.size + 1 + 1, 1, none⟩) (by dsimp only; omega)).trans h1
        have szq : w.heap.size + 1 + 1 < wq.heap.size := Nat.lt_of_lt_of_le sz7 bq.size
        have BQ : Below w.heap.size w wq := B7.trans (bq.mono B7.size)
        clear hwq xq nwc hC0 qb qc q0 q1 q2 q3 q4 q5 q6 A1 C bq
        go_wp2_with fail
        refine bodyPost_ret (v := .tuple #[.agg #[.int .i64 0, .slice none 0 0], .bool false]) (by first | (simp [results, Try.results26, go_sem]; done) | simp [*, results, Try.results26, go_sem]) rfl (TgEnd.no HNO.out (by repeat (first | exact Below.refl _ _ | refine below_step (by assumption) (by first | omega | (simp; done) | (simp; omega)) ?_ | refine below_drewN ?_ _ | refine Below.drew ?_ | refine Below.setCell ?_ (by first | omega | (simp; done) | (simp; omega)) _ | refine Below.alloc ?_ (by first | omega | (simp; done) | (simp; omega)) _)))
      · go_simp
        refine hK _ _ ?_
        clear hK K
        refine wpAny_ready (rs := [5, 7]) (by kernel_rfl) (by simp) ?_
        refine AllReady.cons rfl (fun K hK => ?_) (AllReady.cons rfl (fun K hK => ?_) AllReady.nil)
        · go_simp
          refine hK _ _ ?_
          clear hK K
          refine wpAny_ready (rs := [7]) (by kernel_rfl) (by simp) ?_
          refine AllReady.cons rfl (fun K hK => ?_) AllReady.nil
          go_simp
          refine hK _ _ ?_
          clear hK K
          try simp only [Act.put, List.setIfInBounds_toArray, List.set_cons_succ, List.set_cons_zero]
          rw [← HW7.out]
          refine quiet_rest C 8 (by kernel_rfl) (by kernel_rfl) (by kernel_rfl) hC0 ?_
          simp only [List.drop_succ_cons, List.drop_zero]
          repeat (go_big_quiet_step (first | (go_at_call 16; exact A1.out _)))
          refine wpQuiet_nil ?_
          rintro _ ⟨xq, rfl⟩
          have bq := qb _ xq.h
          have g0 := q0 xq
          have g1 := q1 xq
          have g2 := q2 xq
          have g3 := q3 xq
          have g4 := q4 xq
          have g5 := q5 xq
          have g6 := q6 xq
          obtain ⟨wq, hwq⟩ : ∃ wq, wq = xq.w := ⟨_, rfl⟩
          rw [← hwq] at bq g0 g1 g2 g3 g4 g5 g6 ⊢
          have e0 := (bq.frozen (p := ⟨w.heap.size + 1 + 1, 0, none⟩) (by dsimp only; omega)).trans h0
          have e1 := (bq.frozen (p := ⟨w.heap.size + 1 + 1, 1, none⟩) (by dsimp only; omega)).trans h1
          have szq : w.heap.size + 1 + 1 < wq.heap.size := Nat.lt_of_lt_of_le sz7 bq.size
          have BQ : Below w.heap.size w wq := B7.trans (bq.mono B7.size)
          clear hwq xq nwc hC0 qb qc q0 q1 q2 q3 q4 q5 q6 A1 C bq
          go_wp2_with fail
          refine bodyPost_ret (v := .tuple #[.agg #[.int .i64 0, .slice none 0 0], .bool false]) (by first | (simp [results, Try.results26, go_sem]; done) | simp [*, results, Try.results26, go_sem]) rfl (TgEnd.no HNO.out (by repeat (first | exact Below.refl _ _ | refine below_step (by assumption) (by first | omega | (simp; done) | (simp; omega)) ?_ | refine below_drewN ?_ _ | refine Below.drew ?_ | refine Below.setCell ?_ (by first | omega | (simp; done) | (simp; omega)) _ | refine Below.alloc ?_ (by first | omega | (simp; done) | (simp; omega)) _)))
        · go_simp
          refine hK _ _ ?_
          clear hK K
          refine wpAny_ready (rs := [5]) (by kernel_rfl) (by simp) ?_
          refine AllReady.cons rfl (fun K hK => ?_) AllReady.nil
          go_simp
          refine hK _ _ ?_
          clear hK K
          try simp only [Act.put, List.setIfInBounds_toArray, List.set_cons_succ, List.set_cons_zero]
          rw [← HW7.out]
          refine quiet_rest C 8 (by kernel_rfl) (by kernel_rfl) (by kernel_rfl) hC0 ?_
          simp only [List.drop_succ_cons, List.drop_zero]
          repeat (go_big_quiet_step (first | (go_at_call 16; exact A1.out _)))
          refine wpQuiet_nil ?_
          rintro _ ⟨xq, rfl⟩
          have bq := qb _ xq.h
          have g0 := q0 xq
          have g1 := q1 xq
          have g2 := q2 xq
          have g3 := q3 xq
          have g4 := q4 xq
          have g5 := q5 xq
          have g6 := q6 xq
          obtain ⟨wq, hwq⟩ : ∃ wq, wq = xq.w := ⟨_, rfl⟩
          rw [← hwq] at bq g0 g1 g2 g3 g4 g5 g6 ⊢
          have e0 := (bq.frozen (p := ⟨w.heap.size + 1 + 1, 0, none⟩) (by dsimp only; omega)).trans h0
          have e1 := (bq.frozen (p := ⟨w.heap.size + 1 + 1, 1, none⟩) (by dsimp only; omega)).trans h1
          have szq : w.heap.size + 1 + 1 < wq.heap.size := Nat.lt_of_lt_of_le sz7 bq.size
          have BQ : Below w.heap.size w wq := B7.trans (bq.mono B7.size)
          clear hwq xq nwc hC0 qb qc q0 q1 q2 q3 q4 q5 q6 A1 C bq
          go_wp2_with fail
          refine bodyPost_ret (v := .tuple #[.agg #[.int .i64 0, .slice none 0 0], .bool false]) (by first | (simp [results, Try.results26, go_sem]; done) | simp [*, results, Try.results26, go_sem]) rfl (TgEnd.no HNO.out (by repeat (first | exact Below.refl _ _ | refine below_step (by assumption) (by first | omega | (simp; done) | (simp; omega)) ?_ | refine below_drewN ?_ _ | refine Below.drew ?_ | refine Below.setCell ?_ (by first | omega | (simp; done) | (simp; omega)) _ | refine Below.alloc ?_ (by first | omega | (simp; done) | (simp; omega)) _)))
    | true =>
      have hg2 := HB2.out
      unfold okG okE at hg2
      simp only [List.all_cons, List.all_nil, Bool.and_true, Bool.and_eq_true, decide_eq_true_eq] at hg2
      obtain ⟨_, ⟨hg3, hg4⟩, hg5⟩ := hg2
      obtain ⟨N, rfl⟩ : ∃ N : Nat, n = N := ⟨n.toNat, by omega⟩
      obtain ⟨u, rfl⟩ : ∃ q : Nat, u = q := ⟨u.toNat, by omega⟩
      obtain ⟨v, rfl⟩ : ∃ q : Nat, v = q := ⟨v.toNat, by omega⟩
      have hN8 : N ≤ 8 := by omega
      have huN : u < N := by omega
      have hvN : v < N := by omega
      have hok := closedR_ok HB1.out
      have hkN : k = N * N := by have h1 := (okT_rng hok).2.2; have h2 := HL.out; rw [h2] at h1; exact_mod_cast h1
      have HAT := Lib.hid (fun (a b : Nat) W ha hb h => number_any N a b zs A k c W hN8 ha hb HL.out hkN h)
      unfold grV at HAT
      have HKN := Lib.hid hkN
      have hsp := HSP.out hn08
      simp only [Bool.true_and, Int.toNat_natCast] at hsp
      have HSP2 := Lib.hid hsp
      clear hsp hkN hg3 hg4 hg5 hok hn08
      by_cases hneg : addI x (atT N zs v u) < 0
      · have hno : tightOk (N : Int) zs ⟨u, v, x⟩ = false := by rw [HSP2.out]; simp [hneg]
        have HNO := Lib.hid hno
        clear hno
        go_enter Try.func26, Try.ntmps26
        go_wp2_with fail
        obtain ⟨w1, hw1⟩ : ∃ w1, w1 = ((w.alloc (.cells #[.int .i64 N, .slice A k c] 29)).alloc (.cells #[.int .i64 u, .int .i64 v, .int .i64 x] 35)).alloc (.cells #[.int .i64 0, .slice none 0 0] 29) := ⟨_, rfl⟩
        rw [← hw1]
        have c0 : w1.cell? ⟨w.heap.size, 0, none⟩ = some (.int .i64 N) := by rw [hw1]; go_simp
        have c1 : w1.cell? ⟨w.heap.size, 1, none⟩ = some (.slice A k c) := by rw [hw1]; go_simp
        have c2 : w1.cell? ⟨w.heap.size + 1, 0, none⟩ = some (.int .i64 u) := by rw [hw1]; go_simp
        have c3 : w1.cell? ⟨w.heap.size + 1, 1, none⟩ = some (.int .i64 v) := by rw [hw1]; go_simp
        have c4 : w1.cell? ⟨w.heap.size + 1, 2, none⟩ = some (.int .i64 x) := by rw [hw1]; go_simp
        have c5 : w1.cell? ⟨w.heap.size + 1 + 1, 0, none⟩ = some (.int .i64 0) := by rw [hw1]; go_simp
        have c6 : w1.cell? ⟨w.heap.size + 1 + 1, 1, none⟩ = some (.slice none 0 0) := by rw [hw1]; go_simp
        have z0 : w1.frozen? ⟨w.heap.size + 1 + 1, 0, none⟩ = false := by rw [hw1]; go_simp
        have z1 : w1.frozen? ⟨w.heap.size + 1 + 1, 1, none⟩ = false := by rw [hw1]; go_simp
        have sz1 : w.heap.size + 1 + 1 < w1.heap.size := by rw [hw1]; simp
        have B1 : Below w.heap.size w w1 := by rw [hw1]; exact (by repeat (first | exact Below.refl _ _ | refine below_step (by assumption) (by first | omega | (simp; done) | (simp; omega)) ?_ | refine below_drewN ?_ _ | refine Below.drew ?_ | refine Below.setCell ?_ (by first | omega | (simp; done) | (simp; omega)) _ | refine Below.alloc ?_ (by first | omega | (simp; done) | (simp; omega)) _))
        have hrw := HR.out.below B1
        clear hw1
        refine wp_region_any (by kernel_rfl) ?_
        change wpAny _ _ _ _ _ _ _ (World.drew _)
        refine wpAny_ready (rs := [0]) (by kernel_rfl) (by simp) ?_
        refine AllReady.cons rfl (fun K hK => ?_) AllReady.nil
        go_simp
        refine hK _ _ ?_
        clear hK K
        refine wpAny_ready (rs := [1]) (by kernel_rfl) (by simp) ?_
        refine AllReady.cons rfl (fun K hK => ?_) AllReady.nil
        go_simp
        refine (HT.out _ (by exact hrw.of_heap rfl)).mono ?_
        rintro e w2 ⟨rfl, b2⟩
        have b2 : Below w1.heap.size w1 w2 := (Below.refl _ _).drew.trans b2
        have d0 : w2.cell? ⟨w.heap.size, 0, none⟩ = some (.int .i64 N) := (b2.cell (p := ⟨w.heap.size, 0, none⟩) (by dsimp only; omega)).trans c0
        have d1 : w2.cell? ⟨w.heap.size, 1, none⟩ = some (.slice A k c) := (b2.cell (p := ⟨w.heap.size, 1, none⟩) (by dsimp only; omega)).trans c1
        have d2 : w2.cell? ⟨w.heap.size + 1, 0, none⟩ = some (.int .i64 u) := (b2.cell (p := ⟨w.heap.size + 1, 0, none⟩) (by dsimp only; omega)).trans c2
        have d3 : w2.cell? ⟨w.heap.size + 1, 1, none⟩ = some (.int .i64 v) := (b2.cell (p := ⟨w.heap.size + 1, 1, none⟩) (by dsimp only; omega)).trans c3
        have d4 : w2.cell? ⟨w.heap.size + 1, 2, none⟩ = some (.int .i64 x) := (b2.cell (p := ⟨w.heap.size + 1, 2, none⟩) (by dsimp only; omega)).trans c4
        have d5 : w2.cell? ⟨w.heap.size + 1 + 1, 0, none⟩ = some (.int .i64 0) := (b2.cell (p := ⟨w.heap.size + 1 + 1, 0, none⟩) (by dsimp only; omega)).trans c5
        have d6 : w2.cell? ⟨w.heap.size + 1 + 1, 1, none⟩ = some (.slice none 0 0) := (b2.cell (p := ⟨w.heap.size + 1 + 1, 1, none⟩) (by dsimp only; omega)).trans c6
        have y0 : w2.frozen? ⟨w.heap.size + 1 + 1, 0, none⟩ = false := (b2.frozen (p := ⟨w.heap.size + 1 + 1, 0, none⟩) (by dsimp only; omega)).trans z0
        have y1 : w2.frozen? ⟨w.heap.size + 1 + 1, 1, none⟩ = false := (b2.frozen (p := ⟨w.heap.size + 1 + 1, 1, none⟩) (by dsimp only; omega)).trans z1
        have sz2 : w.heap.size + 1 + 1 < w2.heap.size := Nat.lt_of_lt_of_le sz1 b2.size
        have l2 : w.heap.size < w2.heap.size := by omega
        have B2 : Below w.heap.size w w2 := B1.trans (b2.mono B1.size)
        obtain ⟨w7, hw7⟩ : ∃ w7, w7 = w2.alloc (.cells #[.int .i64 u, .int .i64 v, .int .i64 x] 35) := ⟨_, rfl⟩
        have hE7 : EdgeAt w7 (some ⟨w2.heap.size, 0, none⟩) [⟨u, v, x⟩] := by rw [hw7]; exact edge_one w2 u v x
        have b7 : Below w2.heap.size w2 w7 := by rw [hw7]; exact (Below.refl _ _).alloc (Nat.le_refl _) _
        have g0 : w7.cell? ⟨w.heap.size, 0, none⟩ = some (.int .i64 N) := (b7.cell (p := ⟨w.heap.size, 0, none⟩) (by dsimp only; omega)).trans d0
        have g1 : w7.cell? ⟨w.heap.size, 1, none⟩ = some (.slice A k c) := (b7.cell (p := ⟨w.heap.size, 1, none⟩) (by dsimp only; omega)).trans d1
        have g2 : w7.cell? ⟨w.heap.size + 1, 0, none⟩ = some (.int .i64 u) := (b7.cell (p := ⟨w.heap.size + 1, 0, none⟩) (by dsimp only; omega)).trans d2
        have g3 : w7.cell? ⟨w.heap.size + 1, 1, none⟩ = some (.int .i64 v) := (b7.cell (p := ⟨w.heap.size + 1, 1, none⟩) (by dsimp only; omega)).trans d3
        have g4 : w7.cell? ⟨w.heap.size + 1, 2, none⟩ = some (.int .i64 x) := (b7.cell (p := ⟨w.heap.size + 1, 2, none⟩) (by dsimp only; omega)).trans d4
        have g5 : w7.cell? ⟨w.heap.size + 1 + 1, 0, none⟩ = some (.int .i64 0) := (b7.cell (p := ⟨w.heap.size + 1 + 1, 0, none⟩) (by dsimp only; omega)).trans d5
        have g6 : w7.cell? ⟨w.heap.size + 1 + 1, 1, none⟩ = some (.slice none 0 0) := (b7.cell (p := ⟨w.heap.size + 1 + 1, 1, none⟩) (by dsimp only; omega)).trans d6
        have h0 : w7.frozen? ⟨w.heap.size + 1 + 1, 0, none⟩ = false := (b7.frozen (p := ⟨w.heap.size + 1 + 1, 0, none⟩) (by dsimp only; omega)).trans y0
        have h1 : w7.frozen? ⟨w.heap.size + 1 + 1, 1, none⟩ = false := (b7.frozen (p := ⟨w.heap.size + 1 + 1, 1, none⟩) (by dsimp only; omega)).trans y1
        have sz7 : w.heap.size + 1 + 1 < w7.heap.size := Nat.lt_of_lt_of_le sz2 b7.size
        have B7 : Below w.heap.size w w7 := B2.trans (b7.mono B2.size)
        have hrw7 := HR.out.below B7
        have HW7 := Lib.hid hw7
        have HE7 := Lib.hid hE7
        clear hw7 hE7 b7
        obtain ⟨C, hC⟩ : ∃ C : World → Prop, C = fun W => Below w7.heap.size w7 W := ⟨_, rfl⟩
        have qb : ∀ W, C W → Below w7.heap.size w7 W := fun W h => by rw [hC] at h; exact h
        have qc : ∀ W, Below w7.heap.size w7 W → C W := fun W h => by rw [hC]; exact h
        have hC0 : C w7 := qc _ (Below.refl _ _)
        have q0 : ∀ zc : WC C, zc.w.cell? ⟨w.heap.size, 0, none⟩ = some (.int .i64 N) := fun zc => ((qb _ zc.h).cell (p := ⟨w.heap.size, 0, none⟩) (by dsimp only; omega)).trans g0
        have q1 : ∀ zc : WC C, zc.w.cell? ⟨w.heap.size, 1, none⟩ = some (.slice A k c) := fun zc => ((qb _ zc.h).cell (p := ⟨w.heap.size, 1, none⟩) (by dsimp only; omega)).trans g1
        have q2 : ∀ zc : WC C, zc.w.cell? ⟨w.heap.size + 1, 0, none⟩ = some (.int .i64 u) := fun zc => ((qb _ zc.h).cell (p := ⟨w.heap.size + 1, 0, none⟩) (by dsimp only; omega)).trans g2
        have q3 : ∀ zc : WC C, zc.w.cell? ⟨w.heap.size + 1, 1, none⟩ = some (.int .i64 v) := fun zc => ((qb _ zc.h).cell (p := ⟨w.heap.size + 1, 1, none⟩) (by dsimp only; omega)).trans g3
        have q4 : ∀ zc : WC C, zc.w.cell? ⟨w.heap.size + 1, 2, none⟩ = some (.int .i64 x) := fun zc => ((qb _ zc.h).cell (p := ⟨w.heap.size + 1, 2, none⟩) (by dsimp only; omega)).trans g4
        have q5 : ∀ zc : WC C, zc.w.cell? ⟨w.heap.size + 1 + 1, 0, none⟩ = some (.int .i64 0) := fun zc => ((qb _ zc.h).cell (p := ⟨w.heap.size + 1 + 1, 0, none⟩) (by dsimp only; omega)).trans g5
        have q6 : ∀ zc : WC C, zc.w.cell? ⟨w.heap.size + 1 + 1, 1, none⟩ = some (.slice none 0 0) := fun zc => ((qb _ zc.h).cell (p := ⟨w.heap.size + 1 + 1, 1, none⟩) (by dsimp only; omega)).trans g6
        have A1 : Hid (∀  (zc : WC C), Calls Try.prog 16 #[.agg #[.int .i64 N, .slice (some ⟨w2.heap.size, 0, none⟩) 1 1]] zc.w fun e w2 => e = .returned (.bool true) ∧ ∃ y : WC C, w2 = y.w) := Lib.hid (fun zc => wc_calls ((HG.out ⟨w2.heap.size, 0, none⟩ zc.w (HE7.out.below (qb _ zc.h))).mono fun e w2 k => ⟨k.1, qc _ ((qb _ zc.h).trans (k.2.mono (qb _ zc.h).size))⟩))
        have A5 : Hid (∀ (a b : Nat) (zc : WC C) (_ : a < N) (_ : b < N), Calls Try.prog 57 #[.agg #[.int .i64 N, .slice A k c], .int .i64 a, .int .i64 b] zc.w fun e w2 => e = .returned (.int .i64 (atT N zs a b)) ∧ ∃ y : WC C, w2 = y.w) := Lib.hid (fun a b zc ha hb => wc_calls ((HAT.out a b zc.w ha hb (hrw7.below (qb _ zc.h))).mono fun e w2 k => ⟨k.1, qc _ ((qb _ zc.h).trans (k.2.mono (qb _ zc.h).size))⟩))
        have A6 : Hid (∀ (a b : Int) (zc : WC C), Calls Try.prog 69 #[.int .i64 a, .int .i64 b] zc.w fun e w2 => e = .returned (.int .i64 (addI a b)) ∧ ∃ y : WC C, w2 = y.w) := Lib.hid (fun a b zc => wc_calls ((impl_AddBounds a b zc.w).mono fun e w2 k => ⟨k.1, by rw [← k.2]; exact zc.h⟩))
        have nwc : Nonempty (WC C) := ⟨⟨_, hC0⟩⟩
        clear hC
        first | (refine hK _ _ ?_) | (go_wp2_with fail; refine hK _ _ ?_)
        clear hK K
        refine wpAny_ready (rs := [2]) (by kernel_rfl) (by simp) ?_
        refine AllReady.cons rfl (fun K hK => ?_) AllReady.nil
        go_simp
        refine hK _ _ ?_
        clear hK K
        refine wpAny_ready (rs := [3]) (by kernel_rfl) (by simp) ?_
        refine AllReady.cons rfl (fun K hK => ?_) AllReady.nil
        go_simp
        refine hK _ _ ?_
        clear hK K
        refine wpAny_take (i := 4) (v := .pointer (some ⟨w.heap.size, 0, none⟩)) rfl (by kernel_rfl) (by kernel_rfl) (by kernel_rfl) (fun _ _ _ h => h) (Or.inl ⟨by rfl, fun w => by go_simp⟩) ?_
        refine wpAny_ready (rs := [5, 6]) (by kernel_rfl) (by simp) ?_
        refine AllReady.cons rfl (fun K hK => ?_) (AllReady.cons rfl (fun K hK => ?_) AllReady.nil)
        · go_simp
          refine hK _ _ ?_
          clear hK K
          refine wpAny_ready (rs := [6]) (by kernel_rfl) (by simp) ?_
          refine AllReady.cons rfl (fun K hK => ?_) AllReady.nil
          go_simp
          refine hK _ _ ?_
          clear hK K
          refine wpAny_ready (rs := [7]) (by kernel_rfl) (by simp) ?_
          refine AllReady.cons rfl (fun K hK => ?_) AllReady.nil
          go_simp
          refine hK _ _ ?_
          clear hK K
          try simp only [Act.put, List.setIfInBounds_toArray, List.set_cons_succ, List.set_cons_zero]
          rw [← HW7.out]
          refine quiet_rest C 8 (by kernel_rfl) (by kernel_rfl) (by kernel_rfl) hC0 ?_
          simp only [List.drop_succ_cons, List.drop_zero]
          repeat (go_big_quiet_step (first | (go_at_call 16; exact A1.out _) | (go_at_call 57; exact A5.out _ _ _ (by assumption) (by assumption)) | (go_at_call 69; exact A6.out _ _ _)))
          refine wpQuiet_nil ?_
          rintro _ ⟨xq, rfl⟩
          have bq := qb _ xq.h
          have g0 := q0 xq
          have g1 := q1 xq
          have g2 := q2 xq
          have g3 := q3 xq
          have g4 := q4 xq
          have g5 := q5 xq
          have g6 := q6 xq
          obtain ⟨wq, hwq⟩ : ∃ wq, wq = xq.w := ⟨_, rfl⟩
          rw [← hwq] at bq g0 g1 g2 g3 g4 g5 g6 ⊢
          have e0 := (bq.frozen (p := ⟨w.heap.size + 1 + 1, 0, none⟩) (by dsimp only; omega)).trans h0
          have e1 := (bq.frozen (p := ⟨w.heap.size + 1 + 1, 1, none⟩) (by dsimp only; omega)).trans h1
          have szq : w.heap.size + 1 + 1 < wq.heap.size := Nat.lt_of_lt_of_le sz7 bq.size
          have BQ : Below w.heap.size w wq := B7.trans (bq.mono B7.size)
          clear hwq xq nwc hC0 qb qc q0 q1 q2 q3 q4 q5 q6 A1 A5 A6 C bq
          go_wp2_with fail
          refine bodyPost_ret (v := .tuple #[.agg #[.int .i64 0, .slice none 0 0], .bool false]) (by first | (simp [results, Try.results26, go_sem]; done) | simp [*, results, Try.results26, go_sem]) rfl (TgEnd.no HNO.out (by repeat (first | exact Below.refl _ _ | refine below_step (by assumption) (by first | omega | (simp; done) | (simp; omega)) ?_ | refine below_drewN ?_ _ | refine Below.drew ?_ | refine Below.setCell ?_ (by first | omega | (simp; done) | (simp; omega)) _ | refine Below.alloc ?_ (by first | omega | (simp; done) | (simp; omega)) _)))
        · go_simp
          refine hK _ _ ?_
          clear hK K
          refine wpAny_ready (rs := [5, 7]) (by kernel_rfl) (by simp) ?_
          refine AllReady.cons rfl (fun K hK => ?_) (AllReady.cons rfl (fun K hK => ?_) AllReady.nil)
          · go_simp
            refine hK _ _ ?_
            clear hK K
            refine wpAny_ready (rs := [7]) (by kernel_rfl) (by simp) ?_
            refine AllReady.cons rfl (fun K hK => ?_) AllReady.nil
            go_simp
            refine hK _ _ ?_
            clear hK K
            try simp only [Act.put, List.setIfInBounds_toArray, List.set_cons_succ, List.set_cons_zero]
            rw [← HW7.out]
            refine quiet_rest C 8 (by kernel_rfl) (by kernel_rfl) (by kernel_rfl) hC0 ?_
            simp only [List.drop_succ_cons, List.drop_zero]
            repeat (go_big_quiet_step (first | (go_at_call 16; exact A1.out _) | (go_at_call 57; exact A5.out _ _ _ (by assumption) (by assumption)) | (go_at_call 69; exact A6.out _ _ _)))
            refine wpQuiet_nil ?_
            rintro _ ⟨xq, rfl⟩
            have bq := qb _ xq.h
            have g0 := q0 xq
            have g1 := q1 xq
            have g2 := q2 xq
            have g3 := q3 xq
            have g4 := q4 xq
            have g5 := q5 xq
            have g6 := q6 xq
            obtain ⟨wq, hwq⟩ : ∃ wq, wq = xq.w := ⟨_, rfl⟩
            rw [← hwq] at bq g0 g1 g2 g3 g4 g5 g6 ⊢
            have e0 := (bq.frozen (p := ⟨w.heap.size + 1 + 1, 0, none⟩) (by dsimp only; omega)).trans h0
            have e1 := (bq.frozen (p := ⟨w.heap.size + 1 + 1, 1, none⟩) (by dsimp only; omega)).trans h1
            have szq : w.heap.size + 1 + 1 < wq.heap.size := Nat.lt_of_lt_of_le sz7 bq.size
            have BQ : Below w.heap.size w wq := B7.trans (bq.mono B7.size)
            clear hwq xq nwc hC0 qb qc q0 q1 q2 q3 q4 q5 q6 A1 A5 A6 C bq
            go_wp2_with fail
            refine bodyPost_ret (v := .tuple #[.agg #[.int .i64 0, .slice none 0 0], .bool false]) (by first | (simp [results, Try.results26, go_sem]; done) | simp [*, results, Try.results26, go_sem]) rfl (TgEnd.no HNO.out (by repeat (first | exact Below.refl _ _ | refine below_step (by assumption) (by first | omega | (simp; done) | (simp; omega)) ?_ | refine below_drewN ?_ _ | refine Below.drew ?_ | refine Below.setCell ?_ (by first | omega | (simp; done) | (simp; omega)) _ | refine Below.alloc ?_ (by first | omega | (simp; done) | (simp; omega)) _)))
          · go_simp
            refine hK _ _ ?_
            clear hK K
            refine wpAny_ready (rs := [5]) (by kernel_rfl) (by simp) ?_
            refine AllReady.cons rfl (fun K hK => ?_) AllReady.nil
            go_simp
            refine hK _ _ ?_
            clear hK K
            try simp only [Act.put, List.setIfInBounds_toArray, List.set_cons_succ, List.set_cons_zero]
            rw [← HW7.out]
            refine quiet_rest C 8 (by kernel_rfl) (by kernel_rfl) (by kernel_rfl) hC0 ?_
            simp only [List.drop_succ_cons, List.drop_zero]
            repeat (go_big_quiet_step (first | (go_at_call 16; exact A1.out _) | (go_at_call 57; exact A5.out _ _ _ (by assumption) (by assumption)) | (go_at_call 69; exact A6.out _ _ _)))
            refine wpQuiet_nil ?_
            rintro _ ⟨xq, rfl⟩
            have bq := qb _ xq.h
            have g0 := q0 xq
            have g1 := q1 xq
            have g2 := q2 xq
            have g3 := q3 xq
            have g4 := q4 xq
            have g5 := q5 xq
            have g6 := q6 xq
            obtain ⟨wq, hwq⟩ : ∃ wq, wq = xq.w := ⟨_, rfl⟩
            rw [← hwq] at bq g0 g1 g2 g3 g4 g5 g6 ⊢
            have e0 := (bq.frozen (p := ⟨w.heap.size + 1 + 1, 0, none⟩) (by dsimp only; omega)).trans h0
            have e1 := (bq.frozen (p := ⟨w.heap.size + 1 + 1, 1, none⟩) (by dsimp only; omega)).trans h1
            have szq : w.heap.size + 1 + 1 < wq.heap.size := Nat.lt_of_lt_of_le sz7 bq.size
            have BQ : Below w.heap.size w wq := B7.trans (bq.mono B7.size)
            clear hwq xq nwc hC0 qb qc q0 q1 q2 q3 q4 q5 q6 A1 A5 A6 C bq
            go_wp2_with fail
            refine bodyPost_ret (v := .tuple #[.agg #[.int .i64 0, .slice none 0 0], .bool false]) (by first | (simp [results, Try.results26, go_sem]; done) | simp [*, results, Try.results26, go_sem]) rfl (TgEnd.no HNO.out (by repeat (first | exact Below.refl _ _ | refine below_step (by assumption) (by first | omega | (simp; done) | (simp; omega)) ?_ | refine below_drewN ?_ _ | refine Below.drew ?_ | refine Below.setCell ?_ (by first | omega | (simp; done) | (simp; omega)) _ | refine Below.alloc ?_ (by first | omega | (simp; done) | (simp; omega)) _)))
      · have hyes : tightOk (N : Int) zs ⟨u, v, x⟩ = true := by rw [HSP2.out]; simp [hneg]
        have HYES := Lib.hid hyes
        clear hyes
        go_enter Try.func26, Try.ntmps26
        go_wp2_with fail
        obtain ⟨w1, hw1⟩ : ∃ w1, w1 = ((w.alloc (.cells #[.int .i64 N, .slice A k c] 29)).alloc (.cells #[.int .i64 u, .int .i64 v, .int .i64 x] 35)).alloc (.cells #[.int .i64 0, .slice none 0 0] 29) := ⟨_, rfl⟩
        rw [← hw1]
        have c0 : w1.cell? ⟨w.heap.size, 0, none⟩ = some (.int .i64 N) := by rw [hw1]; go_simp
        have c1 : w1.cell? ⟨w.heap.size, 1, none⟩ = some (.slice A k c) := by rw [hw1]; go_simp
        have c2 : w1.cell? ⟨w.heap.size + 1, 0, none⟩ = some (.int .i64 u) := by rw [hw1]; go_simp
        have c3 : w1.cell? ⟨w.heap.size + 1, 1, none⟩ = some (.int .i64 v) := by rw [hw1]; go_simp
        have c4 : w1.cell? ⟨w.heap.size + 1, 2, none⟩ = some (.int .i64 x) := by rw [hw1]; go_simp
        have c5 : w1.cell? ⟨w.heap.size + 1 + 1, 0, none⟩ = some (.int .i64 0) := by rw [hw1]; go_simp
        have c6 : w1.cell? ⟨w.heap.size + 1 + 1, 1, none⟩ = some (.slice none 0 0) := by rw [hw1]; go_simp
        have z0 : w1.frozen? ⟨w.heap.size + 1 + 1, 0, none⟩ = false := by rw [hw1]; go_simp
        have z1 : w1.frozen? ⟨w.heap.size + 1 + 1, 1, none⟩ = false := by rw [hw1]; go_simp
        have sz1 : w.heap.size + 1 + 1 < w1.heap.size := by rw [hw1]; simp
        have B1 : Below w.heap.size w w1 := by rw [hw1]; exact (by repeat (first | exact Below.refl _ _ | refine below_step (by assumption) (by first | omega | (simp; done) | (simp; omega)) ?_ | refine below_drewN ?_ _ | refine Below.drew ?_ | refine Below.setCell ?_ (by first | omega | (simp; done) | (simp; omega)) _ | refine Below.alloc ?_ (by first | omega | (simp; done) | (simp; omega)) _))
        have hrw := HR.out.below B1
        clear hw1
        go_cut [29] from 6 to 29 (fun b wc => b = Value.bool false ∧ w.heap.size + 1 + 1 < wc.heap.size ∧ wc.cell? ⟨w.heap.size, 0, none⟩ = some (.int .i64 N) ∧ wc.cell? ⟨w.heap.size, 1, none⟩ = some (.slice A k c) ∧ wc.cell? ⟨w.heap.size + 1, 0, none⟩ = some (.int .i64 u) ∧ wc.cell? ⟨w.heap.size + 1, 1, none⟩ = some (.int .i64 v) ∧ wc.cell? ⟨w.heap.size + 1, 2, none⟩ = some (.int .i64 x) ∧ wc.cell? ⟨w.heap.size + 1 + 1, 0, none⟩ = some (.int .i64 0) ∧ wc.cell? ⟨w.heap.size + 1 + 1, 1, none⟩ = some (.slice none 0 0) ∧ wc.frozen? ⟨w.heap.size + 1 + 1, 0, none⟩ = false ∧ wc.frozen? ⟨w.heap.size + 1 + 1, 1, none⟩ = false ∧ Below w.heap.size w wc)
        case first =>
          refine wp_region_any (by kernel_rfl) ?_
          change wpAny _ _ _ _ _ _ _ (World.drew _)
          refine wpAny_ready (rs := [0]) (by kernel_rfl) (by simp) ?_
          refine AllReady.cons rfl (fun K hK => ?_) AllReady.nil
          go_simp
          refine hK _ _ ?_
          clear hK K
          refine wpAny_ready (rs := [1]) (by kernel_rfl) (by simp) ?_
          refine AllReady.cons rfl (fun K hK => ?_) AllReady.nil
          go_simp
          refine (HT.out _ (by exact hrw.of_heap rfl)).mono ?_
          rintro e w2 ⟨rfl, b2⟩
          have b2 : Below w1.heap.size w1 w2 := (Below.refl _ _).drew.trans b2
          have d0 : w2.cell? ⟨w.heap.size, 0, none⟩ = some (.int .i64 N) := (b2.cell (p := ⟨w.heap.size, 0, none⟩) (by dsimp only; omega)).trans c0
          have d1 : w2.cell? ⟨w.heap.size, 1, none⟩ = some (.slice A k c) := (b2.cell (p := ⟨w.heap.size, 1, none⟩) (by dsimp only; omega)).trans c1
          have d2 : w2.cell? ⟨w.heap.size + 1, 0, none⟩ = some (.int .i64 u) := (b2.cell (p := ⟨w.heap.size + 1, 0, none⟩) (by dsimp only; omega)).trans c2
          have d3 : w2.cell? ⟨w.heap.size + 1, 1, none⟩ = some (.int .i64 v) := (b2.cell (p := ⟨w.heap.size + 1, 1, none⟩) (by dsimp only; omega)).trans c3
          have d4 : w2.cell? ⟨w.heap.size + 1, 2, none⟩ = some (.int .i64 x) := (b2.cell (p := ⟨w.heap.size + 1, 2, none⟩) (by dsimp only; omega)).trans c4
          have d5 : w2.cell? ⟨w.heap.size + 1 + 1, 0, none⟩ = some (.int .i64 0) := (b2.cell (p := ⟨w.heap.size + 1 + 1, 0, none⟩) (by dsimp only; omega)).trans c5
          have d6 : w2.cell? ⟨w.heap.size + 1 + 1, 1, none⟩ = some (.slice none 0 0) := (b2.cell (p := ⟨w.heap.size + 1 + 1, 1, none⟩) (by dsimp only; omega)).trans c6
          have y0 : w2.frozen? ⟨w.heap.size + 1 + 1, 0, none⟩ = false := (b2.frozen (p := ⟨w.heap.size + 1 + 1, 0, none⟩) (by dsimp only; omega)).trans z0
          have y1 : w2.frozen? ⟨w.heap.size + 1 + 1, 1, none⟩ = false := (b2.frozen (p := ⟨w.heap.size + 1 + 1, 1, none⟩) (by dsimp only; omega)).trans z1
          have sz2 : w.heap.size + 1 + 1 < w2.heap.size := Nat.lt_of_lt_of_le sz1 b2.size
          have l2 : w.heap.size < w2.heap.size := by omega
          have B2 : Below w.heap.size w w2 := B1.trans (b2.mono B1.size)
          obtain ⟨w7, hw7⟩ : ∃ w7, w7 = w2.alloc (.cells #[.int .i64 u, .int .i64 v, .int .i64 x] 35) := ⟨_, rfl⟩
          have hE7 : EdgeAt w7 (some ⟨w2.heap.size, 0, none⟩) [⟨u, v, x⟩] := by rw [hw7]; exact edge_one w2 u v x
          have b7 : Below w2.heap.size w2 w7 := by rw [hw7]; exact (Below.refl _ _).alloc (Nat.le_refl _) _
          have g0 : w7.cell? ⟨w.heap.size, 0, none⟩ = some (.int .i64 N) := (b7.cell (p := ⟨w.heap.size, 0, none⟩) (by dsimp only; omega)).trans d0
          have g1 : w7.cell? ⟨w.heap.size, 1, none⟩ = some (.slice A k c) := (b7.cell (p := ⟨w.heap.size, 1, none⟩) (by dsimp only; omega)).trans d1
          have g2 : w7.cell? ⟨w.heap.size + 1, 0, none⟩ = some (.int .i64 u) := (b7.cell (p := ⟨w.heap.size + 1, 0, none⟩) (by dsimp only; omega)).trans d2
          have g3 : w7.cell? ⟨w.heap.size + 1, 1, none⟩ = some (.int .i64 v) := (b7.cell (p := ⟨w.heap.size + 1, 1, none⟩) (by dsimp only; omega)).trans d3
          have g4 : w7.cell? ⟨w.heap.size + 1, 2, none⟩ = some (.int .i64 x) := (b7.cell (p := ⟨w.heap.size + 1, 2, none⟩) (by dsimp only; omega)).trans d4
          have g5 : w7.cell? ⟨w.heap.size + 1 + 1, 0, none⟩ = some (.int .i64 0) := (b7.cell (p := ⟨w.heap.size + 1 + 1, 0, none⟩) (by dsimp only; omega)).trans d5
          have g6 : w7.cell? ⟨w.heap.size + 1 + 1, 1, none⟩ = some (.slice none 0 0) := (b7.cell (p := ⟨w.heap.size + 1 + 1, 1, none⟩) (by dsimp only; omega)).trans d6
          have h0 : w7.frozen? ⟨w.heap.size + 1 + 1, 0, none⟩ = false := (b7.frozen (p := ⟨w.heap.size + 1 + 1, 0, none⟩) (by dsimp only; omega)).trans y0
          have h1 : w7.frozen? ⟨w.heap.size + 1 + 1, 1, none⟩ = false := (b7.frozen (p := ⟨w.heap.size + 1 + 1, 1, none⟩) (by dsimp only; omega)).trans y1
          have sz7 : w.heap.size + 1 + 1 < w7.heap.size := Nat.lt_of_lt_of_le sz2 b7.size
          have B7 : Below w.heap.size w w7 := B2.trans (b7.mono B2.size)
          have hrw7 := HR.out.below B7
          have HW7 := Lib.hid hw7
          have HE7 := Lib.hid hE7
          clear hw7 hE7 b7
          obtain ⟨C, hC⟩ : ∃ C : World → Prop, C = fun W => Below w7.heap.size w7 W := ⟨_, rfl⟩
          have qb : ∀ W, C W → Below w7.heap.size w7 W := fun W h => by rw [hC] at h; exact h
          have qc : ∀ W, Below w7.heap.size w7 W → C W := fun W h => by rw [hC]; exact h
          have hC0 : C w7 := qc _ (Below.refl _ _)
          have q0 : ∀ zc : WC C, zc.w.cell? ⟨w.heap.size, 0, none⟩ = some (.int .i64 N) := fun zc => ((qb _ zc.h).cell (p := ⟨w.heap.size, 0, none⟩) (by dsimp only; omega)).trans g0
          have q1 : ∀ zc : WC C, zc.w.cell? ⟨w.heap.size, 1, none⟩ = some (.slice A k c) := fun zc => ((qb _ zc.h).cell (p := ⟨w.heap.size, 1, none⟩) (by dsimp only; omega)).trans g1
          have q2 : ∀ zc : WC C, zc.w.cell? ⟨w.heap.size + 1, 0, none⟩ = some (.int .i64 u) := fun zc => ((qb _ zc.h).cell (p := ⟨w.heap.size + 1, 0, none⟩) (by dsimp only; omega)).trans g2
          have q3 : ∀ zc : WC C, zc.w.cell? ⟨w.heap.size + 1, 1, none⟩ = some (.int .i64 v) := fun zc => ((qb _ zc.h).cell (p := ⟨w.heap.size + 1, 1, none⟩) (by dsimp only; omega)).trans g3
          have q4 : ∀ zc : WC C, zc.w.cell? ⟨w.heap.size + 1, 2, none⟩ = some (.int .i64 x) := fun zc => ((qb _ zc.h).cell (p := ⟨w.heap.size + 1, 2, none⟩) (by dsimp only; omega)).trans g4
          have q5 : ∀ zc : WC C, zc.w.cell? ⟨w.heap.size + 1 + 1, 0, none⟩ = some (.int .i64 0) := fun zc => ((qb _ zc.h).cell (p := ⟨w.heap.size + 1 + 1, 0, none⟩) (by dsimp only; omega)).trans g5
          have q6 : ∀ zc : WC C, zc.w.cell? ⟨w.heap.size + 1 + 1, 1, none⟩ = some (.slice none 0 0) := fun zc => ((qb _ zc.h).cell (p := ⟨w.heap.size + 1 + 1, 1, none⟩) (by dsimp only; omega)).trans g6
          have A1 : Hid (∀  (zc : WC C), Calls Try.prog 16 #[.agg #[.int .i64 N, .slice (some ⟨w2.heap.size, 0, none⟩) 1 1]] zc.w fun e w2 => e = .returned (.bool true) ∧ ∃ y : WC C, w2 = y.w) := Lib.hid (fun zc => wc_calls ((HG.out ⟨w2.heap.size, 0, none⟩ zc.w (HE7.out.below (qb _ zc.h))).mono fun e w2 k => ⟨k.1, qc _ ((qb _ zc.h).trans (k.2.mono (qb _ zc.h).size))⟩))
          have A5 : Hid (∀ (a b : Nat) (zc : WC C) (_ : a < N) (_ : b < N), Calls Try.prog 57 #[.agg #[.int .i64 N, .slice A k c], .int .i64 a, .int .i64 b] zc.w fun e w2 => e = .returned (.int .i64 (atT N zs a b)) ∧ ∃ y : WC C, w2 = y.w) := Lib.hid (fun a b zc ha hb => wc_calls ((HAT.out a b zc.w ha hb (hrw7.below (qb _ zc.h))).mono fun e w2 k => ⟨k.1, qc _ ((qb _ zc.h).trans (k.2.mono (qb _ zc.h).size))⟩))
          have A6 : Hid (∀ (a b : Int) (zc : WC C), Calls Try.prog 69 #[.int .i64 a, .int .i64 b] zc.w fun e w2 => e = .returned (.int .i64 (addI a b)) ∧ ∃ y : WC C, w2 = y.w) := Lib.hid (fun a b zc => wc_calls ((impl_AddBounds a b zc.w).mono fun e w2 k => ⟨k.1, by rw [← k.2]; exact zc.h⟩))
          have nwc : Nonempty (WC C) := ⟨⟨_, hC0⟩⟩
          clear hC
          first | (refine hK _ _ ?_) | (go_wp2_with fail; refine hK _ _ ?_)
          clear hK K
          refine wpAny_ready (rs := [2]) (by kernel_rfl) (by simp) ?_
          refine AllReady.cons rfl (fun K hK => ?_) AllReady.nil
          go_simp
          refine hK _ _ ?_
          clear hK K
          refine wpAny_ready (rs := [3]) (by kernel_rfl) (by simp) ?_
          refine AllReady.cons rfl (fun K hK => ?_) AllReady.nil
          go_simp
          refine hK _ _ ?_
          clear hK K
          refine wpAny_take (i := 4) (v := .pointer (some ⟨w.heap.size, 0, none⟩)) rfl (by kernel_rfl) (by kernel_rfl) (by kernel_rfl) (fun _ _ _ h => h) (Or.inl ⟨by rfl, fun w => by go_simp⟩) ?_
          refine wpAny_ready (rs := [5, 6]) (by kernel_rfl) (by simp) ?_
          refine AllReady.cons rfl (fun K hK => ?_) (AllReady.cons rfl (fun K hK => ?_) AllReady.nil)
          · go_simp
            refine hK _ _ ?_
            clear hK K
            refine wpAny_ready (rs := [6]) (by kernel_rfl) (by simp) ?_
            refine AllReady.cons rfl (fun K hK => ?_) AllReady.nil
            go_simp
            refine hK _ _ ?_
            clear hK K
            refine wpAny_ready (rs := [7]) (by kernel_rfl) (by simp) ?_
            refine AllReady.cons rfl (fun K hK => ?_) AllReady.nil
            go_simp
            refine hK _ _ ?_
            clear hK K
            try simp only [Act.put, List.setIfInBounds_toArray, List.set_cons_succ, List.set_cons_zero]
            rw [← HW7.out]
            refine quiet_rest C 8 (by kernel_rfl) (by kernel_rfl) (by kernel_rfl) hC0 ?_
            simp only [List.drop_succ_cons, List.drop_zero]
            repeat (go_big_quiet_step (first | (go_at_call 16; exact A1.out _) | (go_at_call 57; exact A5.out _ _ _ (by assumption) (by assumption)) | (go_at_call 69; exact A6.out _ _ _)))
            refine wpQuiet_nil ?_
            rintro _ ⟨xq, rfl⟩
            have bq := qb _ xq.h
            have g0 := q0 xq
            have g1 := q1 xq
            have g2 := q2 xq
            have g3 := q3 xq
            have g4 := q4 xq
            have g5 := q5 xq
            have g6 := q6 xq
            obtain ⟨wq, hwq⟩ : ∃ wq, wq = xq.w := ⟨_, rfl⟩
            rw [← hwq] at bq g0 g1 g2 g3 g4 g5 g6 ⊢
            have e0 := (bq.frozen (p := ⟨w.heap.size + 1 + 1, 0, none⟩) (by dsimp only; omega)).trans h0
            have e1 := (bq.frozen (p := ⟨w.heap.size + 1 + 1, 1, none⟩) (by dsimp only; omega)).trans h1
            have szq : w.heap.size + 1 + 1 < wq.heap.size := Nat.lt_of_lt_of_le sz7 bq.size
            have BQ : Below w.heap.size w wq := B7.trans (bq.mono B7.size)
            clear hwq xq nwc hC0 qb qc q0 q1 q2 q3 q4 q5 q6 A1 A5 A6 C bq
            go_wp2_with fail
            go_meet
            exact ⟨by simp [hneg], szq, g0, g1, g2, g3, g4, g5, g6, e0, e1, BQ⟩
          · go_simp
            refine hK _ _ ?_
            clear hK K
            refine wpAny_ready (rs := [5, 7]) (by kernel_rfl) (by simp) ?_
            refine AllReady.cons rfl (fun K hK => ?_) (AllReady.cons rfl (fun K hK => ?_) AllReady.nil)
            · go_simp
              refine hK _ _ ?_
              clear hK K
              refine wpAny_ready (rs := [7]) (by kernel_rfl) (by simp) ?_
              refine AllReady.cons rfl (fun K hK => ?_) AllReady.nil
              go_simp
              refine hK _ _ ?_
              clear hK K
              try simp only [Act.put, List.setIfInBounds_toArray, List.set_cons_succ, List.set_cons_zero]
              rw [← HW7.out]
              refine quiet_rest C 8 (by kernel_rfl) (by kernel_rfl) (by kernel_rfl) hC0 ?_
              simp only [List.drop_succ_cons, List.drop_zero]
              repeat (go_big_quiet_step (first | (go_at_call 16; exact A1.out _) | (go_at_call 57; exact A5.out _ _ _ (by assumption) (by assumption)) | (go_at_call 69; exact A6.out _ _ _)))
              refine wpQuiet_nil ?_
              rintro _ ⟨xq, rfl⟩
              have bq := qb _ xq.h
              have g0 := q0 xq
              have g1 := q1 xq
              have g2 := q2 xq
              have g3 := q3 xq
              have g4 := q4 xq
              have g5 := q5 xq
              have g6 := q6 xq
              obtain ⟨wq, hwq⟩ : ∃ wq, wq = xq.w := ⟨_, rfl⟩
              rw [← hwq] at bq g0 g1 g2 g3 g4 g5 g6 ⊢
              have e0 := (bq.frozen (p := ⟨w.heap.size + 1 + 1, 0, none⟩) (by dsimp only; omega)).trans h0
              have e1 := (bq.frozen (p := ⟨w.heap.size + 1 + 1, 1, none⟩) (by dsimp only; omega)).trans h1
              have szq : w.heap.size + 1 + 1 < wq.heap.size := Nat.lt_of_lt_of_le sz7 bq.size
              have BQ : Below w.heap.size w wq := B7.trans (bq.mono B7.size)
              clear hwq xq nwc hC0 qb qc q0 q1 q2 q3 q4 q5 q6 A1 A5 A6 C bq
              go_wp2_with fail
              go_meet
              exact ⟨by simp [hneg], szq, g0, g1, g2, g3, g4, g5, g6, e0, e1, BQ⟩
            · go_simp
              refine hK _ _ ?_
              clear hK K
              refine wpAny_ready (rs := [5]) (by kernel_rfl) (by simp) ?_
              refine AllReady.cons rfl (fun K hK => ?_) AllReady.nil
              go_simp
              refine hK _ _ ?_
              clear hK K
              try simp only [Act.put, List.setIfInBounds_toArray, List.set_cons_succ, List.set_cons_zero]
              rw [← HW7.out]
              refine quiet_rest C 8 (by kernel_rfl) (by kernel_rfl) (by kernel_rfl) hC0 ?_
              simp only [List.drop_succ_cons, List.drop_zero]
              repeat (go_big_quiet_step (first | (go_at_call 16; exact A1.out _) | (go_at_call 57; exact A5.out _ _ _ (by assumption) (by assumption)) | (go_at_call 69; exact A6.out _ _ _)))
              refine wpQuiet_nil ?_
              rintro _ ⟨xq, rfl⟩
              have bq := qb _ xq.h
              have g0 := q0 xq
              have g1 := q1 xq
              have g2 := q2 xq
              have g3 := q3 xq
              have g4 := q4 xq
              have g5 := q5 xq
              have g6 := q6 xq
              obtain ⟨wq, hwq⟩ : ∃ wq, wq = xq.w := ⟨_, rfl⟩
              rw [← hwq] at bq g0 g1 g2 g3 g4 g5 g6 ⊢
              have e0 := (bq.frozen (p := ⟨w.heap.size + 1 + 1, 0, none⟩) (by dsimp only; omega)).trans h0
              have e1 := (bq.frozen (p := ⟨w.heap.size + 1 + 1, 1, none⟩) (by dsimp only; omega)).trans h1
              have szq : w.heap.size + 1 + 1 < wq.heap.size := Nat.lt_of_lt_of_le sz7 bq.size
              have BQ : Below w.heap.size w wq := B7.trans (bq.mono B7.size)
              clear hwq xq nwc hC0 qb qc q0 q1 q2 q3 q4 q5 q6 A1 A5 A6 C bq
              go_wp2_with fail
              go_meet
              exact ⟨by simp [hneg], szq, g0, g1, g2, g3, g4, g5, g6, e0, e1, BQ⟩
        case rest =>
          obtain ⟨rfl, szc, c0, c1, c2, c3, c4, c5, c6, z0, z1, BC⟩ := hcut
          have v0 : (w.heap.size = w.heap.size + 1 + 1) = False := eq_false (by omega)
          have v1 : (w.heap.size + 1 + 1 = w.heap.size) = False := eq_false (by omega)
          have HGR := Lib.hid (fun W h => grid_any N zs A k c W hN8 HL.out HKN.out h)
          unfold grV at HGR
          have HTG := Lib.hid (fun W => tightened_any N (gT N zs) u v x W hN8 huN hvN)
          have HTB := Lib.hid (fun W => table_any N (tgF N (gT N zs) u v x) W hN8)
          unfold grV at HTB
          go_wp2_with fail
          go_region_held3 (fun W => W.cell? ⟨w.heap.size, 0, none⟩ = some (.int .i64 N) ∧ W.cell? ⟨w.heap.size, 1, none⟩ = some (.slice A k c) ∧ W.cell? ⟨w.heap.size + 1, 0, none⟩ = some (.int .i64 u) ∧ W.cell? ⟨w.heap.size + 1, 1, none⟩ = some (.int .i64 v) ∧ W.cell? ⟨w.heap.size + 1, 2, none⟩ = some (.int .i64 x)) (first | go_keep | (dsimp only; refine ⟨?_, ?_, ?_, ?_, ?_⟩ <;> first | assumption | go_keep | go_simp)) (first | (go_at_call 59; refine (HGR.out _ (HR.out.below (by repeat (first | exact Below.refl _ _ | refine below_step (by assumption) (by first | omega | (simp; done) | (simp; omega)) ?_ | refine below_drewN ?_ _ | refine Below.drew ?_ | refine Below.setCell ?_ (by first | omega | (simp; done) | (simp; omega)) _ | refine Below.alloc ?_ (by first | omega | (simp; done) | (simp; omega)) _)))).mono ?_; rintro e w3 ⟨rfl, b3⟩; have k0_w3 : w3.cell? ⟨w.heap.size, 0, none⟩ = some (.int .i64 N) := (b3.cell (p := ⟨w.heap.size, 0, none⟩) (by first | omega | (simp; done) | (simp; omega))).trans (by first | assumption | go_simp); have k1_w3 : w3.cell? ⟨w.heap.size, 1, none⟩ = some (.slice A k c) := (b3.cell (p := ⟨w.heap.size, 1, none⟩) (by first | omega | (simp; done) | (simp; omega))).trans (by first | assumption | go_simp); have k2_w3 : w3.cell? ⟨w.heap.size + 1, 0, none⟩ = some (.int .i64 u) := (b3.cell (p := ⟨w.heap.size + 1, 0, none⟩) (by first | omega | (simp; done) | (simp; omega))).trans (by first | assumption | go_simp); have k3_w3 : w3.cell? ⟨w.heap.size + 1, 1, none⟩ = some (.int .i64 v) := (b3.cell (p := ⟨w.heap.size + 1, 1, none⟩) (by first | omega | (simp; done) | (simp; omega))).trans (by first | assumption | go_simp); have k4_w3 : w3.cell? ⟨w.heap.size + 1, 2, none⟩ = some (.int .i64 x) := (b3.cell (p := ⟨w.heap.size + 1, 2, none⟩) (by first | omega | (simp; done) | (simp; omega))).trans (by first | assumption | go_simp); have k5_w3 : w3.cell? ⟨w.heap.size + 1 + 1, 0, none⟩ = some (.int .i64 0) := (b3.cell (p := ⟨w.heap.size + 1 + 1, 0, none⟩) (by first | omega | (simp; done) | (simp; omega))).trans (by first | assumption | go_simp); have k6_w3 : w3.cell? ⟨w.heap.size + 1 + 1, 1, none⟩ = some (.slice none 0 0) := (b3.cell (p := ⟨w.heap.size + 1 + 1, 1, none⟩) (by first | omega | (simp; done) | (simp; omega))).trans (by first | assumption | go_simp); have f0_w3 : w3.frozen? ⟨w.heap.size + 1 + 1, 0, none⟩ = false := (b3.frozen (p := ⟨w.heap.size + 1 + 1, 0, none⟩) (by first | omega | (simp; done) | (simp; omega))).trans (by first | assumption | go_simp); have f1_w3 : w3.frozen? ⟨w.heap.size + 1 + 1, 1, none⟩ = false := (b3.frozen (p := ⟨w.heap.size + 1 + 1, 1, none⟩) (by first | omega | (simp; done) | (simp; omega))).trans (by first | assumption | go_simp); have s0_w3 : w.heap.size + 1 + 1 < w3.heap.size := Nat.lt_of_lt_of_le (by first | omega | (simp; done) | (simp; omega)) b3.size; have s1_w3 : w.heap.size < w3.heap.size := Nat.lt_of_lt_of_le (by first | omega | (simp; done) | (simp; omega)) b3.size; have n0_w3 : (w3.heap.size = w.heap.size + 1 + 1) = False := eq_false (by omega); have m0_w3 : (w.heap.size + 1 + 1 = w3.heap.size) = False := eq_false (by omega); have n1_w3 : (w3.heap.size = w.heap.size) = False := eq_false (by omega); have m1_w3 : (w.heap.size = w3.heap.size) = False := eq_false (by omega); have B_w3 : Below w.heap.size w w3 := (by repeat (first | exact Below.refl _ _ | refine below_step (by assumption) (by first | omega | (simp; done) | (simp; omega)) ?_ | refine below_drewN ?_ _ | refine Below.drew ?_ | refine Below.setCell ?_ (by first | omega | (simp; done) | (simp; omega)) _ | refine Below.alloc ?_ (by first | omega | (simp; done) | (simp; omega)) _))) | (go_at_call 70; refine (HTG.out _).mono ?_; rintro e w4 ⟨rfl, b4⟩; have k0_w4 : w4.cell? ⟨w.heap.size, 0, none⟩ = some (.int .i64 N) := (b4.cell (p := ⟨w.heap.size, 0, none⟩) (by first | omega | (simp; done) | (simp; omega))).trans (by first | assumption | go_simp); have k1_w4 : w4.cell? ⟨w.heap.size, 1, none⟩ = some (.slice A k c) := (b4.cell (p := ⟨w.heap.size, 1, none⟩) (by first | omega | (simp; done) | (simp; omega))).trans (by first | assumption | go_simp); have k2_w4 : w4.cell? ⟨w.heap.size + 1, 0, none⟩ = some (.int .i64 u) := (b4.cell (p := ⟨w.heap.size + 1, 0, none⟩) (by first | omega | (simp; done) | (simp; omega))).trans (by first | assumption | go_simp); have k3_w4 : w4.cell? ⟨w.heap.size + 1, 1, none⟩ = some (.int .i64 v) := (b4.cell (p := ⟨w.heap.size + 1, 1, none⟩) (by first | omega | (simp; done) | (simp; omega))).trans (by first | assumption | go_simp); have k4_w4 : w4.cell? ⟨w.heap.size + 1, 2, none⟩ = some (.int .i64 x) := (b4.cell (p := ⟨w.heap.size + 1, 2, none⟩) (by first | omega | (simp; done) | (simp; omega))).trans (by first | assumption | go_simp); have k5_w4 : w4.cell? ⟨w.heap.size + 1 + 1, 0, none⟩ = some (.int .i64 0) := (b4.cell (p := ⟨w.heap.size + 1 + 1, 0, none⟩) (by first | omega | (simp; done) | (simp; omega))).trans (by first | assumption | go_simp); have k6_w4 : w4.cell? ⟨w.heap.size + 1 + 1, 1, none⟩ = some (.slice none 0 0) := (b4.cell (p := ⟨w.heap.size + 1 + 1, 1, none⟩) (by first | omega | (simp; done) | (simp; omega))).trans (by first | assumption | go_simp); have f0_w4 : w4.frozen? ⟨w.heap.size + 1 + 1, 0, none⟩ = false := (b4.frozen (p := ⟨w.heap.size + 1 + 1, 0, none⟩) (by first | omega | (simp; done) | (simp; omega))).trans (by first | assumption | go_simp); have f1_w4 : w4.frozen? ⟨w.heap.size + 1 + 1, 1, none⟩ = false := (b4.frozen (p := ⟨w.heap.size + 1 + 1, 1, none⟩) (by first | omega | (simp; done) | (simp; omega))).trans (by first | assumption | go_simp); have s0_w4 : w.heap.size + 1 + 1 < w4.heap.size := Nat.lt_of_lt_of_le (by first | omega | (simp; done) | (simp; omega)) b4.size; have s1_w4 : w.heap.size < w4.heap.size := Nat.lt_of_lt_of_le (by first | omega | (simp; done) | (simp; omega)) b4.size; have n0_w4 : (w4.heap.size = w.heap.size + 1 + 1) = False := eq_false (by omega); have m0_w4 : (w.heap.size + 1 + 1 = w4.heap.size) = False := eq_false (by omega); have n1_w4 : (w4.heap.size = w.heap.size) = False := eq_false (by omega); have m1_w4 : (w.heap.size = w4.heap.size) = False := eq_false (by omega); have B_w4 : Below w.heap.size w w4 := (by repeat (first | exact Below.refl _ _ | refine below_step (by assumption) (by first | omega | (simp; done) | (simp; omega)) ?_ | refine below_drewN ?_ _ | refine Below.drew ?_ | refine Below.setCell ?_ (by first | omega | (simp; done) | (simp; omega)) _ | refine Below.alloc ?_ (by first | omega | (simp; done) | (simp; omega)) _))) | (go_at_call 52; refine (HTB.out _).mono ?_; rintro e w5 ⟨A5, c5, rfl, ho5, b5⟩; have HO5 := Lib.hid ho5; have k0_w5 : w5.cell? ⟨w.heap.size, 0, none⟩ = some (.int .i64 N) := (b5.cell (p := ⟨w.heap.size, 0, none⟩) (by first | omega | (simp; done) | (simp; omega))).trans (by first | assumption | go_simp); have k1_w5 : w5.cell? ⟨w.heap.size, 1, none⟩ = some (.slice A k c) := (b5.cell (p := ⟨w.heap.size, 1, none⟩) (by first | omega | (simp; done) | (simp; omega))).trans (by first | assumption | go_simp); have k2_w5 : w5.cell? ⟨w.heap.size + 1, 0, none⟩ = some (.int .i64 u) := (b5.cell (p := ⟨w.heap.size + 1, 0, none⟩) (by first | omega | (simp; done) | (simp; omega))).trans (by first | assumption | go_simp); have k3_w5 : w5.cell? ⟨w.heap.size + 1, 1, none⟩ = some (.int .i64 v) := (b5.cell (p := ⟨w.heap.size + 1, 1, none⟩) (by first | omega | (simp; done) | (simp; omega))).trans (by first | assumption | go_simp); have k4_w5 : w5.cell? ⟨w.heap.size + 1, 2, none⟩ = some (.int .i64 x) := (b5.cell (p := ⟨w.heap.size + 1, 2, none⟩) (by first | omega | (simp; done) | (simp; omega))).trans (by first | assumption | go_simp); have k5_w5 : w5.cell? ⟨w.heap.size + 1 + 1, 0, none⟩ = some (.int .i64 0) := (b5.cell (p := ⟨w.heap.size + 1 + 1, 0, none⟩) (by first | omega | (simp; done) | (simp; omega))).trans (by first | assumption | go_simp); have k6_w5 : w5.cell? ⟨w.heap.size + 1 + 1, 1, none⟩ = some (.slice none 0 0) := (b5.cell (p := ⟨w.heap.size + 1 + 1, 1, none⟩) (by first | omega | (simp; done) | (simp; omega))).trans (by first | assumption | go_simp); have f0_w5 : w5.frozen? ⟨w.heap.size + 1 + 1, 0, none⟩ = false := (b5.frozen (p := ⟨w.heap.size + 1 + 1, 0, none⟩) (by first | omega | (simp; done) | (simp; omega))).trans (by first | assumption | go_simp); have f1_w5 : w5.frozen? ⟨w.heap.size + 1 + 1, 1, none⟩ = false := (b5.frozen (p := ⟨w.heap.size + 1 + 1, 1, none⟩) (by first | omega | (simp; done) | (simp; omega))).trans (by first | assumption | go_simp); have s0_w5 : w.heap.size + 1 + 1 < w5.heap.size := Nat.lt_of_lt_of_le (by first | omega | (simp; done) | (simp; omega)) b5.size; have s1_w5 : w.heap.size < w5.heap.size := Nat.lt_of_lt_of_le (by first | omega | (simp; done) | (simp; omega)) b5.size; have n0_w5 : (w5.heap.size = w.heap.size + 1 + 1) = False := eq_false (by omega); have m0_w5 : (w.heap.size + 1 + 1 = w5.heap.size) = False := eq_false (by omega); have n1_w5 : (w5.heap.size = w.heap.size) = False := eq_false (by omega); have m1_w5 : (w.heap.size = w5.heap.size) = False := eq_false (by omega); have B_w5 : Below w.heap.size w w5 := (by repeat (first | exact Below.refl _ _ | refine below_step (by assumption) (by first | omega | (simp; done) | (simp; omega)) ?_ | refine below_drewN ?_ _ | refine Below.drew ?_ | refine Below.setCell ?_ (by first | omega | (simp; done) | (simp; omega)) _ | refine Below.alloc ?_ (by first | omega | (simp; done) | (simp; omega)) _))))
          all_goals
            go_wp2_with fail
            refine bodyPost_ret (v := tgV N A5 (N * N) c5 true) (by first | (simp [results, Try.results26, go_sem, tgV, grV]; done) | simp [*, results, Try.results26, go_sem, tgV, grV]) rfl ?_
            unfold TgEnd
            rw [tightR_yes HYES.out]
            refine ⟨A5, N * N, c5, rfl, by rw [tight_length], ?_, (by repeat (first | exact Below.refl _ _ | refine below_step (by assumption) (by first | omega | (simp; done) | (simp; omega)) ?_ | refine below_drewN ?_ _ | refine Below.drew ?_ | refine Below.setCell ?_ (by first | omega | (simp; done) | (simp; omega)) _ | refine Below.alloc ?_ (by first | omega | (simp; done) | (simp; omega)) _))⟩
            have ho6 := HO5.out
            rw [tab_tight zs hN8 huN hvN] at ho6
            refine own_base (B := w4.heap.size) ?_ (by have := B_w4.size; omega)
            repeat (refine own_set ?_ _ _ (by dsimp only; omega))
            exact ho6

end Go.Proofs.Ytdjaiijgdflopaa
