/-
  WALK of impl.CloseGraph.
-/
import Derived.Test.YtdjaiijgdflopaaTgC
import Derived.Test.YtdjaiijgdflopaaGrX
namespace Go.Proofs.Ytdjaiijgdflopaa
open Go.RowKit
set_option linter.unusedVariables false
set_option linter.unusedSimpArgs false

/-- A grid that is filled row by row with h, the loops standing at i, k. -/
def fnS (N : Nat) (h : Nat → Nat → Int) (i k : Nat) : Nat → Int := fun p => if p / 8 < N ∧ p % 8 < N ∧ (p / 8 < i ∨ (p / 8 = i ∧ p % 8 < k)) then h (p / 8) (p % 8) else 0
theorem fnS_start (N : Nat) (h : Nat → Nat → Int) : fnS N h 0 0 = fun _ => 0 := by funext p; unfold fnS; rw [if_neg (by omega)]
theorem fnS_row (N : Nat) (h : Nat → Nat → Int) (i : Nat) : fnS N h i N = fnS N h (i + 1) 0 := by
  funext p; unfold fnS
  by_cases e : p / 8 < N ∧ p % 8 < N ∧ p / 8 < i + 1
  · rw [if_pos (by omega), if_pos (by omega)]
  · rw [if_neg (by omega), if_neg (by omega)]
theorem fnS_next {N i k : Nat} (h : Nat → Nat → Int) (hN : N ≤ 8) (hi : i < N) (hk : k < N) : upf (fnS N h i k) (i * 8 + k) (h i k) = fnS N h i (k + 1) := by
  funext p; unfold upf
  by_cases e : p = i * 8 + k
  · have e1 : p / 8 = i := by omega
    have e2 : p % 8 = k := by omega
    rw [if_pos e]; unfold fnS
    rw [e1, e2, if_pos (by omega)]
  · rw [if_neg e]; unfold fnS
    by_cases g : p / 8 < N ∧ p % 8 < N ∧ (p / 8 < i ∨ (p / 8 = i ∧ p % 8 < k))
    · rw [if_pos g, if_pos (by omega)]
    · rw [if_neg g, if_neg (by omega)]
theorem tab_fn {N : Nat} (h : Nat → Nat → Int) (hN : N ≤ 8) : tabG N (fnS N h N 0) N = (List.range N).flatMap fun i => (List.range N).map fun k => h i k := by
  unfold tabG
  have e : ∀ i ∈ List.range N, rowG N (fnS N h N 0) i = (List.range N).map fun k => h i k := by
    intro i hi
    have hi2 : i < N := by simpa using hi
    unfold rowG
    apply List.map_congr_left
    intro k hk
    have hk2 : k < N := by simpa using hk
    have e1 : (i * 8 + k) / 8 = i := by omega
    have e2 : (i * 8 + k) % 8 = k := by omega
    unfold fnS
    rw [e1, e2, if_pos (by omega)]
  rw [List.flatMap_def, List.flatMap_def, List.map_congr_left e]
def cgH (N : Nat) (es : List GE) (i k : Nat) : Int := clampI (distE (roundsE es (srcS i) N).1 k)
theorem tab_close {N : Nat} (es : List GE) (hN : N ≤ 8) : tabG N (fnS N (cgH N es) N 0) N = closeC N es := by
  rw [tab_fn _ hN]
  unfold closeC rowC distZ cgH
  simp [Function.comp_def]
theorem closeOk_all {N : Nat} {es : List GE} (h : ∀ p, p < N → (roundsE es (srcS p) N).2 = -1) : closeOk N es = true := by
  unfold closeOk; rw [List.all_eq_true]; intro p hp; exact decide_eq_true (h p (by simpa using hp))
theorem closeOk_not {N : Nat} {es : List GE} {i : Nat} (hi : i < N) (h : (roundsE es (srcS i) N).2 ≠ -1) : closeOk N es = false := by
  unfold closeOk; rw [List.all_eq_false]; exact ⟨i, by simpa using hi, by simpa using h⟩
def CgEnd (n : Int) (es : List GE) (w : World) (x : Ending) (w' : World) : Prop :=
  ∃ A k c, x = .returned (tgV (closeR n es).1 A k c (closeR n es).2.2) ∧ k = (closeR n es).2.1.length ∧ w'.ownsRow w.heap.size 3 1 (.slice A k c) k ((closeR n es).2.1.map intV) ∧ Below w.heap.size w w'
theorem closeR_no {n : Int} {es : List GE} (h : ¬ (okG n es = true ∧ closeOk n.toNat es = true)) : closeR n es = (0, [], false) := by unfold closeR; rw [if_neg h]
theorem closeR_yes {N : Nat} {es : List GE} (h : okG N es = true) (h2 : closeOk N es = true) : closeR N es = ((N : Int), closeC N es, true) := by unfold closeR; rw [if_pos ⟨h, by simpa using h2⟩]; simp
theorem CgEnd.no {n : Int} {es : List GE} {w w' : World} (h : ¬ (okG n es = true ∧ closeOk n.toNat es = true)) (hb : Below w.heap.size w w') : CgEnd n es w (.returned (.tuple #[.agg #[.int .i64 0, .slice none 0 0], .bool false])) w' := by
  unfold CgEnd; rw [closeR_no h]
  exact ⟨none, 0, 0, rfl, rfl, World.ownsRow_nil _ _ _ _, hb⟩
theorem row_other {W : World} {g o b q : Nat} {xs : List Value} {v : Value} (h : RowAt W (some ⟨g, o, none⟩) xs) (hg : g ≠ b) : RowAt (W.drew.setCell ⟨b, q, none⟩ v) (some ⟨g, o, none⟩) xs := by
  intro hx
  obtain ⟨g', o', hA, hg', hc⟩ := h hx
  injection hA with hA
  injection hA with h1 h2
  subst h1
  subst h2
  refine ⟨g, o, rfl, by simpa [World.setCell] using hg', fun j hj => ?_⟩
  rw [World.cell?_setCell_other _ _ _ _ (by intro h; simp only [Addr.mk.injEq] at h; omega)]
  exact hc j hj
theorem distZ_at (s : St) {j k : Nat} (h : k < j) : (distZ s j)[k]?.getD 0 = distE s k := by simp [distZ, h]

set_option maxRecDepth 100000 in
set_option maxHeartbeats 8000000 in
theorem impl_CloseGraph (n : Int) (es : List GE) (A : Option Addr) (k c : Nat) (w : World) (hn : es.length = k) (hk : k ≤ 1048576) (hr : EdgeAt w A es) :
    Calls Try.prog 14 #[grV n A k c] w fun e w' => CgEnd n es w e w' := by
  have hg := fun W h => impl_GraphOk n es A k c W hn hk h
  have HSF := Lib.hid (fun (z : Int) W h => impl_ShortestFrom n es A k c z W hn hk h)
  have HR := Lib.hid hr
  have HL := Lib.hid hn
  have hz := zero_grid
  clear hr hn
  obtain ⟨ok, hok⟩ : ∃ b, b = okG n es := ⟨_, rfl⟩
  rw [← hok] at hg
  have HG := Lib.hid hg
  have HO := Lib.hid hok.symm
  clear hok hg
  unfold grV at HG HSF ⊢
  cases ok with
  | false =>
    have HNO := Lib.hid (fun w' => CgEnd.no (n := n) (es := es) (w := w) (w' := w') (by rw [HO.out]; simp))
    go_enter Try.func14, Try.ntmps14
    go_wp2_with fail
    refine (HG.out _ (HR.out.below (by repeat (first | exact Below.refl _ _ | refine below_step (by assumption) (by first | omega | (simp; done) | (simp; omega)) ?_ | refine below_drewN ?_ _ | refine Below.drew ?_ | refine Below.setCell ?_ (by first | omega | (simp; done) | (simp; omega)) _ | refine Below.alloc ?_ (by first | omega | (simp; done) | (simp; omega)) _)))).mono ?_
    rintro e w1 ⟨rfl, b1⟩

    have k0_w1 : w1.cell? ⟨w.heap.size + 1, 0, none⟩ = some (.int .i64 0) := (b1.cell (p := ⟨w.heap.size + 1, 0, none⟩) (by first | omega | (simp; done) | (simp; omega))).trans (by first | assumption | go_simp)
    have k1_w1 : w1.cell? ⟨w.heap.size + 1, 1, none⟩ = some (.slice none 0 0) := (b1.cell (p := ⟨w.heap.size + 1, 1, none⟩) (by first | omega | (simp; done) | (simp; omega))).trans (by first | assumption | go_simp)
    have f0_w1 : w1.frozen? ⟨w.heap.size + 1, 0, none⟩ = false := (b1.frozen (p := ⟨w.heap.size + 1, 0, none⟩) (by first | omega | (simp; done) | (simp; omega))).trans (by first | assumption | go_simp)
    have f1_w1 : w1.frozen? ⟨w.heap.size + 1, 1, none⟩ = false := (b1.frozen (p := ⟨w.heap.size + 1, 1, none⟩) (by first | omega | (simp; done) | (simp; omega))).trans (by first | assumption | go_simp)
    have s0_w1 : w.heap.size + 1 < w1.heap.size := Nat.lt_of_lt_of_le (by first | omega | (simp; done) | (simp; omega)) b1.size
    have B_w1 : Below w.heap.size w w1 := (by repeat (first | exact Below.refl _ _ | refine below_step (by assumption) (by first | omega | (simp; done) | (simp; omega)) ?_ | refine below_drewN ?_ _ | refine Below.drew ?_ | refine Below.setCell ?_ (by first | omega | (simp; done) | (simp; omega)) _ | refine Below.alloc ?_ (by first | omega | (simp; done) | (simp; omega)) _))
    clear b1
    go_wp2_with fail
    refine bodyPost_ret (v := .tuple #[.agg #[.int .i64 0, .slice none 0 0], .bool false]) (by first | (simp [results, Try.results14, go_sem]; done) | simp [*, results, Try.results14, go_sem]) rfl (HNO.out _ (by repeat (first | exact Below.refl _ _ | refine below_step (by assumption) (by first | omega | (simp; done) | (simp; omega)) ?_ | refine below_drewN ?_ _ | refine Below.drew ?_ | refine Below.setCell ?_ (by first | omega | (simp; done) | (simp; omega)) _ | refine Below.alloc ?_ (by first | omega | (simp; done) | (simp; omega)) _)))
  | true =>
    have hrg := okG_rng HO.out
    obtain ⟨N, rfl⟩ : ∃ N : Nat, n = N := ⟨n.toNat, by omega⟩
    have hN8 : N ≤ 8 := by omega
    clear hrg
    have HTB := Lib.hid (fun W => table_any N (fnS N (cgH N es) N 0) W hN8)
    unfold grV at HTB
    go_enter Try.func14, Try.ntmps14
    go_wp2_with fail
    refine (HG.out _ (HR.out.below (by repeat (first | exact Below.refl _ _ | refine below_step (by assumption) (by first | omega | (simp; done) | (simp; omega)) ?_ | refine below_drewN ?_ _ | refine Below.drew ?_ | refine Below.setCell ?_ (by first | omega | (simp; done) | (simp; omega)) _ | refine Below.alloc ?_ (by first | omega | (simp; done) | (simp; omega)) _)))).mono ?_
    rintro e w1 ⟨rfl, b1⟩
    have k0_w1 : w1.cell? ⟨w.heap.size, 0, none⟩ = some (.int .i64 N) := (b1.cell (p := ⟨w.heap.size, 0, none⟩) (by first | omega | (simp; done) | (simp; omega))).trans (by first | assumption | go_simp)
    have k1_w1 : w1.cell? ⟨w.heap.size, 1, none⟩ = some (.slice A k c) := (b1.cell (p := ⟨w.heap.size, 1, none⟩) (by first | omega | (simp; done) | (simp; omega))).trans (by first | assumption | go_simp)
    have k2_w1 : w1.cell? ⟨w.heap.size + 1, 0, none⟩ = some (.int .i64 0) := (b1.cell (p := ⟨w.heap.size + 1, 0, none⟩) (by first | omega | (simp; done) | (simp; omega))).trans (by first | assumption | go_simp)
    have k3_w1 : w1.cell? ⟨w.heap.size + 1, 1, none⟩ = some (.slice none 0 0) := (b1.cell (p := ⟨w.heap.size + 1, 1, none⟩) (by first | omega | (simp; done) | (simp; omega))).trans (by first | assumption | go_simp)
    have f0_w1 : w1.frozen? ⟨w.heap.size + 1, 0, none⟩ = false := (b1.frozen (p := ⟨w.heap.size + 1, 0, none⟩) (by first | omega | (simp; done) | (simp; omega))).trans (by first | assumption | go_simp)
    have f1_w1 : w1.frozen? ⟨w.heap.size + 1, 1, none⟩ = false := (b1.frozen (p := ⟨w.heap.size + 1, 1, none⟩) (by first | omega | (simp; done) | (simp; omega))).trans (by first | assumption | go_simp)
    have s0_w1 : w.heap.size + 1 < w1.heap.size := Nat.lt_of_lt_of_le (by first | omega | (simp; done) | (simp; omega)) b1.size
    have B_w1 : Below w.heap.size w w1 := (by repeat (first | exact Below.refl _ _ | refine below_step (by assumption) (by first | omega | (simp; done) | (simp; omega)) ?_ | refine below_drewN ?_ _ | refine Below.drew ?_ | refine Below.setCell ?_ (by first | omega | (simp; done) | (simp; omega)) _ | refine Below.alloc ?_ (by first | omega | (simp; done) | (simp; omega)) _))
    clear b1
    obtain ⟨b4, hb4⟩ : ∃ b, b = w1.heap.size := ⟨_, rfl⟩
    obtain ⟨wz, hwz⟩ : ∃ wz, wz = w1.alloc (.cells (gridA fun _ => 0) 77) := ⟨_, rfl⟩
    have hG0 : GdAt wz b4 (fnS N (cgH N es) 0 0) := by rw [hwz, fnS_start]; exact GdAt.made hb4
    have bz : Below w1.heap.size w1 wz := by rw [hwz]; exact (Below.refl _ _).alloc (Nat.le_refl _) _
    have c0 : wz.cell? ⟨w.heap.size, 0, none⟩ = some (.int .i64 N) := (bz.cell (p := ⟨w.heap.size, 0, none⟩) (by dsimp only; omega)).trans k0_w1
    have c1 : wz.cell? ⟨w.heap.size, 1, none⟩ = some (.slice A k c) := (bz.cell (p := ⟨w.heap.size, 1, none⟩) (by dsimp only; omega)).trans k1_w1
    have c2 : wz.cell? ⟨w.heap.size + 1, 0, none⟩ = some (.int .i64 0) := (bz.cell (p := ⟨w.heap.size + 1, 0, none⟩) (by dsimp only; omega)).trans k2_w1
    have c3 : wz.cell? ⟨w.heap.size + 1, 1, none⟩ = some (.slice none 0 0) := (bz.cell (p := ⟨w.heap.size + 1, 1, none⟩) (by dsimp only; omega)).trans k3_w1
    have z0 : wz.frozen? ⟨w.heap.size + 1, 0, none⟩ = false := (bz.frozen (p := ⟨w.heap.size + 1, 0, none⟩) (by dsimp only; omega)).trans f0_w1
    have z1 : wz.frozen? ⟨w.heap.size + 1, 1, none⟩ = false := (bz.frozen (p := ⟨w.heap.size + 1, 1, none⟩) (by dsimp only; omega)).trans f1_w1
    have BZ : Below w.heap.size w wz := B_w1.trans (bz.mono B_w1.size)
    have hb4w : w.heap.size + 1 < b4 := by omega
    go_upto_region 4 with (fail)
    rw [← hwz, ← hb4]
    have HG0 := Lib.hid hG0
    clear hwz hb4 bz hG0 k0_w1 k1_w1 k2_w1 k3_w1 f0_w1 f1_w1 s0_w1 B_w1
    have m1 : (b4 = w.heap.size + 1) = False := eq_false (by omega)
    have m2 : (w.heap.size + 1 = b4) = False := eq_false (by omega)
    go_wp2_with fail
    go_loopw [16] (fun i wr => ∃ q : Nat, q ≤ N ∧ i = .int .i64 q ∧ (∀ p, p < q → (roundsE es (srcS p) N).2 = -1) ∧ GdAt wr b4 (fnS N (cgH N es) q 0) ∧ wr.cell? ⟨w.heap.size, 0, none⟩ = some (.int .i64 N) ∧ wr.cell? ⟨w.heap.size, 1, none⟩ = some (.slice A k c) ∧ wr.cell? ⟨w.heap.size + 1, 0, none⟩ = some (.int .i64 0) ∧ wr.cell? ⟨w.heap.size + 1, 1, none⟩ = some (.slice none 0 0) ∧ wr.frozen? ⟨w.heap.size + 1, 0, none⟩ = false ∧ wr.frozen? ⟨w.heap.size + 1, 1, none⟩ = false ∧ Below w.heap.size w wr) (fun i _ => N - (intOf i).toNat)
    case atStart => exact ⟨0, Nat.zero_le _, rfl, fun p hp => by omega, HG0.out, c0, c1, c2, c3, z0, z1, BZ⟩
    case round =>
      clear c0 c1 c2 c3 z0 z1 BZ HG0
      obtain ⟨i, hi, rfl, hall, hgd, c0, c1, c2, c3, z0, z1, hbw⟩ := hrel
      have HALL := Lib.hid hall
      have HGD := Lib.hid hgd
      have hlt4 := hgd.lt
      have hsz : w.heap.size + 1 < wr.heap.size := by omega
      clear hall hgd
      by_cases hiN : i < N
      · have hiN2 : (i : Int) < (N : Int) := by omega
        have hii : (i : Int) < 8 := by omega
        by_cases hrd : (roundsE es (srcS i) N).2 = -1
        · have hsf := HSF.out (i : Int)
          rw [shortR_yes HO.out hiN hrd] at hsf
          dsimp only at hsf
          have HS1 := Lib.hid hsf
          have HN1 := Lib.hid (upto_next (p := fun p => (roundsE es (srcS p) N).2 = -1) HALL.out hrd)
          clear hsf hrd
          go_wp2_with fail
          refine (HS1.out _ (HR.out.below hbw)).mono ?_
          rintro e w2 ⟨B, m, cb, rfl, hm, hown, b2⟩
          rw [distZ_length] at hm
          rw [hm] at hown ⊢
          have hrow := own_row hown
          have hown0 := hown
          have d0 : w2.cell? ⟨w.heap.size, 0, none⟩ = some (.int .i64 N) := (b2.cell (p := ⟨w.heap.size, 0, none⟩) (by dsimp only; omega)).trans c0
          have d1 : w2.cell? ⟨w.heap.size, 1, none⟩ = some (.slice A k c) := (b2.cell (p := ⟨w.heap.size, 1, none⟩) (by dsimp only; omega)).trans c1
          have d2 : w2.cell? ⟨w.heap.size + 1, 0, none⟩ = some (.int .i64 0) := (b2.cell (p := ⟨w.heap.size + 1, 0, none⟩) (by dsimp only; omega)).trans c2
          have d3 : w2.cell? ⟨w.heap.size + 1, 1, none⟩ = some (.slice none 0 0) := (b2.cell (p := ⟨w.heap.size + 1, 1, none⟩) (by dsimp only; omega)).trans c3
          have y0 : w2.frozen? ⟨w.heap.size + 1, 0, none⟩ = false := (b2.frozen (p := ⟨w.heap.size + 1, 0, none⟩) (by dsimp only; omega)).trans z0
          have y1 : w2.frozen? ⟨w.heap.size + 1, 1, none⟩ = false := (b2.frozen (p := ⟨w.heap.size + 1, 1, none⟩) (by dsimp only; omega)).trans z1
          have hgd2 := HGD.out.below b2 hlt4
          have B2 : Below w.heap.size w w2 := hbw.trans (b2.mono hbw.size)
          have hgB : ∀ g o, B = some ⟨g, o, none⟩ → wr.heap.size ≤ g := fun g o h => by subst h; exact (hown0.lt g rfl).1
          have HGB := Lib.hid hgB
          have HGD2 := Lib.hid hgd2
          have HRW := Lib.hid hrow
          clear hown hown0 hm b2 hgd2 hrow hgB c0 c1 c2 c3 z0 z1 hbw HGD
          go_wp2_with fail
          go_loopw [30] (fun i3 wr => ∃ q : Nat, q ≤ N ∧ i3 = .int .i64 q ∧ GdAt wr b4 (fnS N (cgH N es) i q) ∧ RowAt wr B ((distZ (roundsE es (srcS i) N).1 N).map intV) ∧ wr.cell? ⟨w.heap.size, 0, none⟩ = some (.int .i64 N) ∧ wr.cell? ⟨w.heap.size, 1, none⟩ = some (.slice A k c) ∧ wr.cell? ⟨w.heap.size + 1, 0, none⟩ = some (.int .i64 0) ∧ wr.cell? ⟨w.heap.size + 1, 1, none⟩ = some (.slice none 0 0) ∧ wr.frozen? ⟨w.heap.size + 1, 0, none⟩ = false ∧ wr.frozen? ⟨w.heap.size + 1, 1, none⟩ = false ∧ Below w.heap.size w wr) (fun i3 _ => N - (intOf i3).toNat)
          case atStart => exact ⟨0, Nat.zero_le _, rfl, HGD2.out, HRW.out, d0, d1, d2, d3, y0, y1, B2⟩
          case round =>
            clear d0 d1 d2 d3 y0 y1 B2 HGD2 HRW
            obtain ⟨j, hj, rfl, hgd, hrow, c0, c1, c2, c3, z0, z1, hbw⟩ := hrel
            have hlt5 := hgd.lt
            by_cases hjN : j < N
            · obtain ⟨g, o, rfl, hgl, hc⟩ := rowInts hrow (q := j) (by rw [distZ_length]; exact hjN)
              rw [distZ_at _ hjN] at hc
              have hgg := HGB.out g o rfl
              have hnx := fnS_next (cgH N es) hN8 hiN hjN
              have e1 := hgd.cell (j := i * 8 + j) (by omega)
              have e2 := hgd.free (i * 8 + j)
              obtain ⟨old, hold⟩ : ∃ x, x = fnS N (cgH N es) i j (i * 8 + j) := ⟨_, rfl⟩
              have hcg : cgH N es i j = clampI (distE (roundsE es (srcS i) N).1 j) := rfl
              obtain ⟨x, hx⟩ : ∃ x, x = distE (roundsE es (srcS i) N).1 j := ⟨_, rfl⟩
              rw [hcg, ← hx] at hnx
              rw [← hx] at hc
              rw [← hold] at e1
              have HA := Lib.hid (fun W : World => (impl_ClampBound x W).mono (R' := fun e w' => e = .returned (.int .i64 (clampI x)) ∧ w' = W) (fun e w' ⟨h1, h2⟩ => ⟨h1, h2.symm⟩))
              have HNX := Lib.hid hnx
              have HGD3 := Lib.hid hgd
              have HRW3 := Lib.hid hrow
              have hji : (j : Int) < 8 := by omega
              have hgb4 : g ≠ b4 := by omega
              clear hnx hgd hold hcg hx hgg hrow
              go_wp2_with fail
              refine wp_region_still_tail 6 (by kernel_rfl) (by kernel_rfl) ?_
              change wpStill _ _ (World.drew _) _ _ _
              simp only [List.take_succ_cons, List.take_zero, List.drop_succ_cons, List.drop_zero]
              repeat (first | still_step | still_call (HA.out _))
              refine wpStill_nil ?_
              change wpList _ _ _ _ _ (World.drew _)
              go_wp2_with fail
              go_roundw
              case rel => exact ⟨j + 1, by omega, by go_num, by rw [← HNX.out]; exact HGD3.out.drew.store (by omega) _, row_other HRW3.out hgb4, by go_simp, by go_simp, by go_simp, by go_simp, by go_simp, by go_simp, (by repeat (first | exact Below.refl _ _ | refine below_step (by assumption) (by first | omega | (simp; done) | (simp; omega)) ?_ | refine below_drewN ?_ _ | refine Below.drew ?_ | refine Below.setCell ?_ (by first | omega | (simp; done) | (simp; omega)) _ | refine Below.alloc ?_ (by first | omega | (simp; done) | (simp; omega)) _))⟩
              case measure => simp [intOf]; omega
            · have hjn : j = N := by omega
              rw [hjn, fnS_row] at hgd
              have HGD3 := Lib.hid hgd
              clear hgd hjn
              go_wp2_with fail
              go_roundw
              case rel => exact ⟨i + 1, by omega, by go_num, HN1.out, HGD3.out, c0, c1, c2, c3, z0, z1, hbw⟩
              case measure => simp [intOf]; omega
        · have HNO := Lib.hid (fun w' => CgEnd.no (n := (N : Int)) (es := es) (w := w) (w' := w') (by rw [Int.toNat_natCast, closeOk_not hiN hrd]; simp))
          have hsf := HSF.out (i : Int)
          rw [shortR_neg hrd] at hsf
          dsimp only at hsf
          have HS1 := Lib.hid hsf
          clear hsf hrd
          go_wp2_with fail
          refine (HS1.out _ (HR.out.below hbw)).mono ?_
          rintro e w2 ⟨B, m, cb, rfl, hm, hown, b2⟩
          have d0 : w2.cell? ⟨w.heap.size, 0, none⟩ = some (.int .i64 N) := (b2.cell (p := ⟨w.heap.size, 0, none⟩) (by dsimp only; omega)).trans c0
          have d1 : w2.cell? ⟨w.heap.size, 1, none⟩ = some (.slice A k c) := (b2.cell (p := ⟨w.heap.size, 1, none⟩) (by dsimp only; omega)).trans c1
          have d2 : w2.cell? ⟨w.heap.size + 1, 0, none⟩ = some (.int .i64 0) := (b2.cell (p := ⟨w.heap.size + 1, 0, none⟩) (by dsimp only; omega)).trans c2
          have d3 : w2.cell? ⟨w.heap.size + 1, 1, none⟩ = some (.slice none 0 0) := (b2.cell (p := ⟨w.heap.size + 1, 1, none⟩) (by dsimp only; omega)).trans c3
          have y0 : w2.frozen? ⟨w.heap.size + 1, 0, none⟩ = false := (b2.frozen (p := ⟨w.heap.size + 1, 0, none⟩) (by dsimp only; omega)).trans z0
          have y1 : w2.frozen? ⟨w.heap.size + 1, 1, none⟩ = false := (b2.frozen (p := ⟨w.heap.size + 1, 1, none⟩) (by dsimp only; omega)).trans z1
          have s2 : w.heap.size + 1 < w2.heap.size := Nat.lt_of_lt_of_le hsz b2.size
          have B2 : Below w.heap.size w w2 := hbw.trans (b2.mono hbw.size)
          clear hm hown b2
          go_wp2_with fail
          refine bodyPost_ret (v := .tuple #[.agg #[.int .i64 0, .slice none 0 0], .bool false]) (by first | (simp [results, Try.results14, go_sem]; done) | simp [*, results, Try.results14, go_sem]) rfl (HNO.out _ (by repeat (first | exact Below.refl _ _ | refine below_step (by assumption) (by first | omega | (simp; done) | (simp; omega)) ?_ | refine below_drewN ?_ _ | refine Below.drew ?_ | refine Below.setCell ?_ (by first | omega | (simp; done) | (simp; omega)) _ | refine Below.alloc ?_ (by first | omega | (simp; done) | (simp; omega)) _)))
      · have hin : i = N := by omega
        have hgd := HGD.out
        rw [hin] at hgd
        have hall := HALL.out
        rw [hin] at hall
        have HYES := Lib.hid (closeR_yes HO.out (closeOk_all hall))
        clear hall
        go_wp2_with (first | (refine wpList_load_row rfl 77 _ rfl b4 rfl 77 _ (0, 0) _ hgd Try.underlying77 rfl (size_grid _) ?_) | (go_at_call 52; refine (HTB.out _).mono ?_; rintro e w5 ⟨A5, c5, rfl, ho5, b5⟩; have HO5 := Lib.hid ho5; clear ho5; have k0_w5 : w5.cell? ⟨w.heap.size, 0, none⟩ = some (.int .i64 N) := (b5.cell (p := ⟨w.heap.size, 0, none⟩) (by first | omega | (simp; done) | (simp; omega))).trans (by first | assumption | go_simp); have k1_w5 : w5.cell? ⟨w.heap.size, 1, none⟩ = some (.slice A k c) := (b5.cell (p := ⟨w.heap.size, 1, none⟩) (by first | omega | (simp; done) | (simp; omega))).trans (by first | assumption | go_simp); have k2_w5 : w5.cell? ⟨w.heap.size + 1, 0, none⟩ = some (.int .i64 0) := (b5.cell (p := ⟨w.heap.size + 1, 0, none⟩) (by first | omega | (simp; done) | (simp; omega))).trans (by first | assumption | go_simp); have k3_w5 : w5.cell? ⟨w.heap.size + 1, 1, none⟩ = some (.slice none 0 0) := (b5.cell (p := ⟨w.heap.size + 1, 1, none⟩) (by first | omega | (simp; done) | (simp; omega))).trans (by first | assumption | go_simp); have f0_w5 : w5.frozen? ⟨w.heap.size + 1, 0, none⟩ = false := (b5.frozen (p := ⟨w.heap.size + 1, 0, none⟩) (by first | omega | (simp; done) | (simp; omega))).trans (by first | assumption | go_simp); have f1_w5 : w5.frozen? ⟨w.heap.size + 1, 1, none⟩ = false := (b5.frozen (p := ⟨w.heap.size + 1, 1, none⟩) (by first | omega | (simp; done) | (simp; omega))).trans (by first | assumption | go_simp); have s0_w5 : w.heap.size + 1 < w5.heap.size := Nat.lt_of_lt_of_le (by first | omega | (simp; done) | (simp; omega)) b5.size; have B_w5 : Below w.heap.size w w5 := (by repeat (first | exact Below.refl _ _ | refine below_step (by assumption) (by first | omega | (simp; done) | (simp; omega)) ?_ | refine below_drewN ?_ _ | refine Below.drew ?_ | refine Below.setCell ?_ (by first | omega | (simp; done) | (simp; omega)) _ | refine Below.alloc ?_ (by first | omega | (simp; done) | (simp; omega)) _))))
        refine bodyPost_ret (v := tgV N A5 (N * N) c5 true) (by first | (simp [results, Try.results14, go_sem, tgV, grV]; done) | simp [*, results, Try.results14, go_sem, tgV, grV]) rfl ?_
        unfold CgEnd
        rw [HYES.out]
        refine ⟨A5, N * N, c5, rfl, by rw [close_length], ?_, (by repeat (first | exact Below.refl _ _ | refine below_step (by assumption) (by first | omega | (simp; done) | (simp; omega)) ?_ | refine below_drewN ?_ _ | refine Below.drew ?_ | refine Below.setCell ?_ (by first | omega | (simp; done) | (simp; omega)) _ | refine Below.alloc ?_ (by first | omega | (simp; done) | (simp; omega)) _))⟩
        have ho6 := HO5.out
        rw [tab_close es hN8] at ho6
        refine own_base (B := wr.heap.size) ?_ (by omega)
        repeat (refine own_set ?_ _ _ (by dsimp only; omega))
        exact ho6

end Go.Proofs.Ytdjaiijgdflopaa
