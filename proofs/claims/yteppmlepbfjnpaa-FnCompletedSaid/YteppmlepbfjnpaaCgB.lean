/-
  WALK of spec.CloseGraph.
-/
import Derived.Test.YteppmlepbfjnpaaBdTgC
import Derived.Deep.RegionLaw
import Derived.Deep.AppendLies
namespace Go.Proofs.Yteppmlepbfjnpaa
open Go.RowKit
set_option linter.unusedVariables false
set_option linter.unusedSimpArgs false

/-- The numbers that have been appended when the loops stand at i, k. -/
def cgL (N : Nat) (es : List GE) (i k : Nat) : List Int := ((List.range i).flatMap fun i => (List.range N).map (cgH N es i)) ++ (List.range k).map (cgH N es i)
theorem cgL_next (N : Nat) (es : List GE) (i k : Nat) : cgL N es i (k + 1) = cgL N es i k ++ [cgH N es i k] := by
  unfold cgL; rw [List.range_succ (n := k), List.map_append, List.append_assoc]; rfl
theorem cgL_row (N : Nat) (es : List GE) (i : Nat) : cgL N es i N = cgL N es (i + 1) 0 := by
  unfold cgL; rw [List.range_succ (n := i), List.flatMap_append]; simp
theorem cgL_all (N : Nat) (es : List GE) : cgL N es N 0 = closeC N es := by unfold cgL closeC rowC distZ; simp [Function.comp_def]; rfl

theorem cell_one_drew (w : World) (x : Value) (t : TypeId) : ∀ j u, [x][j]? = some u → (w.alloc (.cells #[x] t)).drew.cell? ((⟨w.heap.size, 0, none⟩ : Addr).add j) = some u := cell_one_new w x t
theorem row_grownC {W w' : World} {g o : Nat} {xs : List Value} {row : Option Nat} (h : RowAt W (some ⟨g, o, none⟩) xs) (hg : W.grownBy w' row) (hr : row ≠ some g) : RowAt w' (some ⟨g, o, none⟩) xs := by
  intro hx
  obtain ⟨g', o', hA, hg', hc⟩ := h hx
  injection hA with hA
  injection hA with h1 h2
  subst h1
  subst h2
  refine ⟨g, o, rfl, Nat.lt_of_lt_of_le hg' hg.size, fun j hj => ?_⟩
  rw [World.cell?_of_block (a := ⟨g, o + j, none⟩) (hg.block g hg' (fun e => hr e.symm))]
  exact hc j hj
theorem row_set {W : World} {g o b q : Nat} {xs : List Value} {v : Value} (h : RowAt W (some ⟨g, o, none⟩) xs) (hg : g ≠ b) : RowAt (W.setCell ⟨b, q, none⟩ v) (some ⟨g, o, none⟩) xs := by
  intro hx
  obtain ⟨g', o', hA, hg', hc⟩ := h hx
  injection hA with hA
  injection hA with h1 h2
  subst h1
  subst h2
  refine ⟨g, o, rfl, by simpa [World.setCell] using hg', fun j hj => ?_⟩
  rw [World.cell?_setCell_other _ _ _ _ (by intro h; simp only [Addr.mk.injEq] at h; omega)]
  exact hc j hj
theorem own_new {v : Value} {g5 g H s cap : Nat} (hat : v.ownBlock = some g5 ∨ g5 = H) (hn : v.ownBlock ≠ some g) (hH : g < H) : ∀ g2, (Value.slice (some ⟨g5, 0, none⟩) s cap).ownBlock = some g2 → g2 ≠ g := by
  intro g2 h e
  simp [Value.ownBlock] at h
  subst e
  subst h
  rcases hat with h | h
  · exact hn h
  · omega

set_option maxRecDepth 100000 in
set_option maxHeartbeats 8000000 in
theorem spec_CloseGraph (n : Int) (es : List GE) (A : Option Addr) (k c : Nat) (w : World) (hn : es.length = k) (hk : k ≤ 1048576) (hr : EdgeAt w A es) :
    Calls Try.prog 91 #[grV n A k c] w fun e w' => CgEnd n es w e w' := by
  have hg := fun W h => spec_GraphOk n es A k c W hn hk h
  have HSF := Lib.hid (fun (z : Int) W h => spec_ShortestFrom_new n es A k c z W hn hk h)
  have HR := Lib.hid hr
  have HL := Lib.hid hn
  clear hr hn
  obtain ⟨i0, hi, hz0, hz1, hz2⟩ := info_parts Try.info3
  obtain ⟨ok, hok⟩ : ∃ b, b = okG n es := ⟨_, rfl⟩
  rw [← hok] at hg
  have HG := Lib.hid hg
  have HO := Lib.hid hok.symm
  clear hok hg
  unfold grV at HG HSF ⊢
  cases ok with
  | false =>
    have HNO := Lib.hid (fun w' => CgEnd.no (n := n) (es := es) (w := w) (w' := w') (by rw [HO.out]; simp))
    go_enter Try.func91, Try.ntmps91
    go_wp2_with fail
    refine (HG.out _ (HR.out.below (by repeat (first | exact Below.refl _ _ | refine below_step (by assumption) (by first | omega | (simp; done) | (simp; omega)) ?_ | refine below_drewN ?_ _ | refine Below.drew ?_ | refine Below.setCell ?_ (by first | omega | (simp; done) | (simp; omega)) _ | refine Below.alloc ?_ (by first | omega | (simp; done) | (simp; omega)) _)))).mono ?_
    rintro e w1 ⟨rfl, b1⟩

    have k0_w1 : w1.cell? ⟨w.heap.size + 1, 0, none⟩ = some (.int .i64 0) := (b1.cell (p := ⟨w.heap.size + 1, 0, none⟩) (by first | omega | (simp; done) | (simp; omega))).trans (by first | assumption | go_simp)
    have k1_w1 : w1.cell? ⟨w.heap.size + 1, 1, none⟩ = some (.slice none 0 0) := (b1.cell (p := ⟨w.heap.size + 1, 1, none⟩) (by first | omega | (simp; done) | (simp; omega))).trans (by first | assumption | go_simp)
    have f0_w1 : w1.frozen? ⟨w.heap.size + 1, 0, none⟩ = false := (b1.frozen (p := ⟨w.heap.size + 1, 0, none⟩) (by first | omega | (simp; done) | (simp; omega))).trans (by first | assumption | go_simp)
    have f1_w1 : w1.frozen? ⟨w.heap.size + 1, 1, none⟩ = false := (b1.frozen (p := ⟨w.heap.size + 1, 1, none⟩) (by first | omega | (simp; done) | (simp; omega))).trans (by first | assumption | go_simp)
    have s0_w1 : w.heap.size + 1 < w1.heap.size := Nat.lt_of_lt_of_le (by first | omega | (simp; done) | (simp; omega)) b1.size
    have B_w1 : Below w.heap.size w w1 := (by repeat (first | exact Below.refl _ _ | refine below_step (by assumption) (by first | omega | (simp; done) | (simp; omega)) ?_ | refine below_drewN ?_ _ | refine Below.drew ?_ | refine Below.setCell ?_ (by first | omega | (simp; done) | (simp; omega)) _ | refine Below.alloc ?_ (by first | omega | (simp; done) | (simp; omega)) _))
    clear b1
    go_wp2_with fail
    refine bodyPost_ret (v := .tuple #[.agg #[.int .i64 0, .slice none 0 0], .bool false]) (by first | (simp [results, Try.results91, go_sem]; done) | simp [*, results, Try.results91, go_sem]) rfl (HNO.out _ (by repeat (first | exact Below.refl _ _ | refine below_step (by assumption) (by first | omega | (simp; done) | (simp; omega)) ?_ | refine below_drewN ?_ _ | refine Below.drew ?_ | refine Below.setCell ?_ (by first | omega | (simp; done) | (simp; omega)) _ | refine Below.alloc ?_ (by first | omega | (simp; done) | (simp; omega)) _)))
  | true =>
    have hrg := okG_rng HO.out
    obtain ⟨N, rfl⟩ : ∃ N : Nat, n = N := ⟨n.toNat, by omega⟩
    have hN8 : N ≤ 8 := by omega
    have h64 := sq_le hN8
    clear hrg
    go_enter Try.func91, Try.ntmps91
    go_wp2_with fail
    refine (HG.out _ (HR.out.below (by repeat (first | exact Below.refl _ _ | refine below_step (by assumption) (by first | omega | (simp; done) | (simp; omega)) ?_ | refine below_drewN ?_ _ | refine Below.drew ?_ | refine Below.setCell ?_ (by first | omega | (simp; done) | (simp; omega)) _ | refine Below.alloc ?_ (by first | omega | (simp; done) | (simp; omega)) _)))).mono ?_
    rintro e w1 ⟨rfl, b1⟩
    have k0_w1 : w1.cell? ⟨w.heap.size, 0, none⟩ = some (.int .i64 N) := (b1.cell (p := ⟨w.heap.size, 0, none⟩) (by first | omega | (simp; done) | (simp; omega))).trans (by first | assumption | go_simp)
    have k1_w1 : w1.cell? ⟨w.heap.size, 1, none⟩ = some (.slice A k c) := (b1.cell (p := ⟨w.heap.size, 1, none⟩) (by first | omega | (simp; done) | (simp; omega))).trans (by first | assumption | go_simp)
    have k2_w1 : w1.cell? ⟨w.heap.size + 1, 0, none⟩ = some (.int .i64 0) := (b1.cell (p := ⟨w.heap.size + 1, 0, none⟩) (by first | omega | (simp; done) | (simp; omega))).trans (by first | assumption | go_simp)
    have k3_w1 : w1.cell? ⟨w.heap.size + 1, 1, none⟩ = some (.slice none 0 0) := (b1.cell (p := ⟨w.heap.size + 1, 1, none⟩) (by first | omega | (simp; done) | (simp; omega))).trans (by first | assumption | go_simp)
    have f0_w1 : w1.frozen? ⟨w.heap.size + 1, 0, none⟩ = false := (b1.frozen (p := ⟨w.heap.size + 1, 0, none⟩) (by first | omega | (simp; done) | (simp; omega))).trans (by first | assumption | go_simp)
    have f1_w1 : w1.frozen? ⟨w.heap.size + 1, 1, none⟩ = false := (b1.frozen (p := ⟨w.heap.size + 1, 1, none⟩) (by first | omega | (simp; done) | (simp; omega))).trans (by first | assumption | go_simp)
    have s0_w1 : w.heap.size + 1 < w1.heap.size := Nat.lt_of_lt_of_le (by first | omega | (simp; done) | (simp; omega)) b1.size
    have B_w1 : Below w.heap.size w w1 := (by repeat (first | exact Below.refl _ _ | refine below_step (by assumption) (by first | omega | (simp; done) | (simp; omega)) ?_ | refine below_drewN ?_ _ | refine Below.drew ?_ | refine Below.setCell ?_ (by first | omega | (simp; done) | (simp; omega)) _ | refine Below.alloc ?_ (by first | omega | (simp; done) | (simp; omega)) _))
    clear b1
    obtain ⟨b4, hb4⟩ : ∃ b, b = w1.heap.size := ⟨_, rfl⟩
    obtain ⟨wz, hwz⟩ : ∃ wz, wz = w1.alloc (.cells #[.int .i64 N, .slice none 0 0] 65) := ⟨_, rfl⟩
    have bz : Below w1.heap.size w1 wz := by rw [hwz]; exact (Below.refl _ _).alloc (Nat.le_refl _) _
    have o0 : wz.cell? ⟨b4, 0, none⟩ = some (.int .i64 N) := by rw [hwz, hb4]; go_simp
    have o1 : wz.cell? ⟨b4, 1, none⟩ = some (.slice none 0 0) := by rw [hwz, hb4]; go_simp
    have o2 : wz.frozen? ⟨b4, 1, none⟩ = false := by rw [hwz, hb4]; go_simp
    have szz : b4 < wz.heap.size := by rw [hwz, hb4]; simp
    have c0 : wz.cell? ⟨w.heap.size, 0, none⟩ = some (.int .i64 N) := (bz.cell (p := ⟨w.heap.size, 0, none⟩) (by dsimp only; omega)).trans k0_w1
    have c1 : wz.cell? ⟨w.heap.size, 1, none⟩ = some (.slice A k c) := (bz.cell (p := ⟨w.heap.size, 1, none⟩) (by dsimp only; omega)).trans k1_w1
    have c2 : wz.cell? ⟨w.heap.size + 1, 0, none⟩ = some (.int .i64 0) := (bz.cell (p := ⟨w.heap.size + 1, 0, none⟩) (by dsimp only; omega)).trans k2_w1
    have c3 : wz.cell? ⟨w.heap.size + 1, 1, none⟩ = some (.slice none 0 0) := (bz.cell (p := ⟨w.heap.size + 1, 1, none⟩) (by dsimp only; omega)).trans k3_w1
    have z0 : wz.frozen? ⟨w.heap.size + 1, 0, none⟩ = false := (bz.frozen (p := ⟨w.heap.size + 1, 0, none⟩) (by dsimp only; omega)).trans f0_w1
    have z1 : wz.frozen? ⟨w.heap.size + 1, 1, none⟩ = false := (bz.frozen (p := ⟨w.heap.size + 1, 1, none⟩) (by dsimp only; omega)).trans f1_w1
    have BZ : Below w.heap.size w wz := B_w1.trans (bz.mono B_w1.size)
    have hb4w : w.heap.size + 1 < b4 := by omega
    go_upto_region 4 with (fail)
    rw [← hwz, ← hb4]
    clear hwz hb4 bz k0_w1 k1_w1 k2_w1 k3_w1 f0_w1 f1_w1 s0_w1 B_w1
    have m1 : (b4 = w.heap.size + 1) = False := eq_false (by omega)
    have m2 : (w.heap.size + 1 = b4) = False := eq_false (by omega)
    have m3 : (b4 = w.heap.size) = False := eq_false (by omega)
    have m4 : (w.heap.size = b4) = False := eq_false (by omega)
    go_wp2_with fail
    go_loopw [5] (fun i wr => ∃ q : Nat, q ≤ N ∧ i = .int .i64 q ∧ (∀ p, p < q → (roundsE es (srcS p) N).2 = -1) ∧ ∃ (s : Nat) (A2 : Option Addr) (d2 : Nat), s = q * N + 0 ∧ wr.cell? ⟨w.heap.size, 0, none⟩ = some (.int .i64 N) ∧ wr.cell? ⟨w.heap.size, 1, none⟩ = some (.slice A k c) ∧ wr.cell? ⟨w.heap.size + 1, 0, none⟩ = some (.int .i64 0) ∧ wr.cell? ⟨w.heap.size + 1, 1, none⟩ = some (.slice none 0 0) ∧ wr.frozen? ⟨w.heap.size + 1, 0, none⟩ = false ∧ wr.frozen? ⟨w.heap.size + 1, 1, none⟩ = false ∧ wr.cell? ⟨b4, 0, none⟩ = some (.int .i64 N) ∧ wr.cell? ⟨b4, 1, none⟩ = some (.slice A2 s d2) ∧ wr.frozen? ⟨b4, 1, none⟩ = false ∧ wr.ownsRow (b4 + 1) 3 1 (.slice A2 s d2) s ((cgL N es q 0).map intV) ∧ b4 < wr.heap.size ∧ Below w.heap.size w wr) (fun i _ => N - (intOf i).toNat)
    case atStart => exact ⟨0, Nat.zero_le _, rfl, fun p hp => by omega, 0, none, 0, by simp, c0, c1, c2, c3, z0, z1, o0, o1, o2, World.ownsRow_nil _ _ _ _, szz, BZ⟩
    case round =>
      clear c0 c1 c2 c3 z0 z1 o0 o1 o2 szz BZ
      obtain ⟨i, hi2, rfl, hall, hinv⟩ := hrel
      have HALL := Lib.hid hall
      have HIN := Lib.hid hinv
      obtain ⟨s, A2, d2, hs, c0, c1, c2, c3, z0, z1, o0, o1, o2, hown, hsz, hbw⟩ := hinv
      have HOW := Lib.hid hown
      have HSS := Lib.hid hs
      have hsz1 : w.heap.size + 1 < wr.heap.size := by omega
      clear hall hown hs
      by_cases hiN : i < N
      · have hiN2 : (i : Int) < (N : Int) := by omega
        by_cases hrd : (roundsE es (srcS i) N).2 = -1
        · have hsf := HSF.out (i : Int)
          rw [shortR_yes HO.out hiN hrd] at hsf
          dsimp only at hsf
          have HS1 := Lib.hid hsf
          have HN1 := Lib.hid (upto_next (p := fun p => (roundsE es (srcS p) N).2 = -1) HALL.out hrd)
          clear hsf hrd
          go_wp2_with fail
          refine (HS1.out _ (HR.out.below hbw)).mono ?_
          rintro e w2 ⟨B, m, cb, rfl, hm, hrow, hnew, b2⟩
          rw [distZ_length] at hm
          rw [hm]
          have d10 : w2.cell? ⟨w.heap.size, 0, none⟩ = some (.int .i64 N) := (b2.cell (p := ⟨w.heap.size, 0, none⟩) (by dsimp only; omega)).trans c0
          have d11 : w2.cell? ⟨w.heap.size, 1, none⟩ = some (.slice A k c) := (b2.cell (p := ⟨w.heap.size, 1, none⟩) (by dsimp only; omega)).trans c1
          have d12 : w2.cell? ⟨w.heap.size + 1, 0, none⟩ = some (.int .i64 0) := (b2.cell (p := ⟨w.heap.size + 1, 0, none⟩) (by dsimp only; omega)).trans c2
          have d13 : w2.cell? ⟨w.heap.size + 1, 1, none⟩ = some (.slice none 0 0) := (b2.cell (p := ⟨w.heap.size + 1, 1, none⟩) (by dsimp only; omega)).trans c3
          have d14 : w2.cell? ⟨b4, 0, none⟩ = some (.int .i64 N) := (b2.cell (p := ⟨b4, 0, none⟩) (by dsimp only; omega)).trans o0
          have d15 : w2.cell? ⟨b4, 1, none⟩ = some (.slice A2 s d2) := (b2.cell (p := ⟨b4, 1, none⟩) (by dsimp only; omega)).trans o1
          have y0 : w2.frozen? ⟨w.heap.size + 1, 0, none⟩ = false := (b2.frozen (p := ⟨w.heap.size + 1, 0, none⟩) (by dsimp only; omega)).trans z0
          have y1 : w2.frozen? ⟨w.heap.size + 1, 1, none⟩ = false := (b2.frozen (p := ⟨w.heap.size + 1, 1, none⟩) (by dsimp only; omega)).trans z1
          have y2 : w2.frozen? ⟨b4, 1, none⟩ = false := (b2.frozen (p := ⟨b4, 1, none⟩) (by dsimp only; omega)).trans o2
          have how2 := own_below HOW.out b2
          have hsq : b4 < w2.heap.size := Nat.lt_of_lt_of_le hsz b2.size
          have B2 : Below w.heap.size w w2 := hbw.trans (b2.mono hbw.size)
          have hapt : ∀ g o, B = some ⟨g, o, none⟩ → (Value.slice A2 s d2).ownBlock ≠ some g := fun g o e h => by have h1 := hnew g o e; have h2 := (HOW.out.lt g h).2; omega
          have hltB : ∀ g o, B = some ⟨g, o, none⟩ → 0 < N → g < w2.heap.size := fun g o e h => by obtain ⟨g2, o2, e2, h2, _⟩ := hrow (by simp [distZ]; omega); rw [e] at e2; injection e2 with e2; injection e2 with e2; omega
          have hst : (RowAt w2 B ((distZ (roundsE es (srcS i) N).1 N).map intV) ∧ ∃ (s : Nat) (A2 : Option Addr) (d2 : Nat), s = i * N + 0 ∧ w2.cell? ⟨w.heap.size, 0, none⟩ = some (.int .i64 N) ∧ w2.cell? ⟨w.heap.size, 1, none⟩ = some (.slice A k c) ∧ w2.cell? ⟨w.heap.size + 1, 0, none⟩ = some (.int .i64 0) ∧ w2.cell? ⟨w.heap.size + 1, 1, none⟩ = some (.slice none 0 0) ∧ w2.frozen? ⟨w.heap.size + 1, 0, none⟩ = false ∧ w2.frozen? ⟨w.heap.size + 1, 1, none⟩ = false ∧ w2.cell? ⟨b4, 0, none⟩ = some (.int .i64 N) ∧ w2.cell? ⟨b4, 1, none⟩ = some (.slice A2 s d2) ∧ w2.frozen? ⟨b4, 1, none⟩ = false ∧ w2.ownsRow (b4 + 1) 3 1 (.slice A2 s d2) s ((cgL N es i 0).map intV) ∧ b4 < w2.heap.size ∧ (∀ g o, B = some ⟨g, o, none⟩ → (Value.slice A2 s d2).ownBlock ≠ some g) ∧ Below w.heap.size w w2) := ⟨hrow, s, A2, d2, HSS.out, d10, d11, d12, d13, y0, y1, d14, d15, y2, how2, hsq, hapt, B2⟩
          have hbb : ∀ g o, B = some ⟨g, o, none⟩ → b4 < g := fun g o e => by have := hnew g o e; omega
          have HBB := Lib.hid hbb
          have HST := Lib.hid hst
          clear hbb hapt hltB hnew hst hrow hm b2 how2 HOW HSS HIN c0 c1 c2 c3 z0 z1 o0 o1 o2 hbw hsz hsz1
          go_wp2_with fail
          go_loopw [34] (fun i3 wr => ∃ q : Nat, q ≤ N ∧ i3 = .int .i64 q ∧ RowAt wr B ((distZ (roundsE es (srcS i) N).1 N).map intV) ∧ ∃ (s : Nat) (A2 : Option Addr) (d2 : Nat), s = i * N + q ∧ wr.cell? ⟨w.heap.size, 0, none⟩ = some (.int .i64 N) ∧ wr.cell? ⟨w.heap.size, 1, none⟩ = some (.slice A k c) ∧ wr.cell? ⟨w.heap.size + 1, 0, none⟩ = some (.int .i64 0) ∧ wr.cell? ⟨w.heap.size + 1, 1, none⟩ = some (.slice none 0 0) ∧ wr.frozen? ⟨w.heap.size + 1, 0, none⟩ = false ∧ wr.frozen? ⟨w.heap.size + 1, 1, none⟩ = false ∧ wr.cell? ⟨b4, 0, none⟩ = some (.int .i64 N) ∧ wr.cell? ⟨b4, 1, none⟩ = some (.slice A2 s d2) ∧ wr.frozen? ⟨b4, 1, none⟩ = false ∧ wr.ownsRow (b4 + 1) 3 1 (.slice A2 s d2) s ((cgL N es i q).map intV) ∧ b4 < wr.heap.size ∧ (∀ g o, B = some ⟨g, o, none⟩ → (Value.slice A2 s d2).ownBlock ≠ some g) ∧ Below w.heap.size w wr) (fun i3 _ => N - (intOf i3).toNat)
          case atStart => exact ⟨0, Nat.zero_le _, rfl, HST.out⟩
          case round =>
            clear d10 d11 d12 d13 d14 d15 y0 y1 y2 B2 hsq HST s A2 d2
            obtain ⟨j, hj, rfl, hrow, hinv⟩ := hrel
            have HIN := Lib.hid hinv
            obtain ⟨s, A2, d2, hs, c0, c1, c2, c3, z0, z1, o0, o1, o2, hown, hsz, hapt, hbw⟩ := hinv
            have HOW := Lib.hid hown
            have HSS := Lib.hid hs
            clear hown hs
            by_cases hjN : j < N
            · have hs72 : s + 1 ≤ 72 := by have h1 := HSS.out; have h2 : i * N + j < N * N := at_lt hiN hjN; omega
              obtain ⟨g, o, hB, hgl, hc⟩ := rowInts hrow (q := j) (by rw [distZ_length]; exact hjN)
              rw [distZ_at _ hjN] at hc
              have hcg : cgH N es i j = clampI (distE (roundsE es (srcS i) N).1 j) := rfl
              obtain ⟨x, hx⟩ : ∃ x, x = distE (roundsE es (srcS i) N).1 j := ⟨_, rfl⟩
              rw [← hx] at hc hcg
              have HCG := Lib.hid hcg
              have HRW := Lib.hid hrow
              have HA := Lib.hid (fun W : World => (spec_ClampBound x W).mono (R' := fun e w' => e = .returned (.int .i64 (clampI x)) ∧ w' = W) (fun e w' ⟨h1, h2⟩ => ⟨h1, h2.symm⟩))
              have nb : ∀ q, q ≤ b4 → (Value.slice A2 s d2).ownBlock ≠ some q := fun q hq h => by have := (HOW.out.lt q h).1; omega
              have nb0 := nb w.heap.size (by omega)
              have nb1 := nb (w.heap.size + 1) (by omega)
              have nb3 := nb b4 (by omega)
              have lt2 : ∀ q, (Value.slice A2 s d2).ownBlock = some q → b4 + 1 ≤ q := fun q h => (HOW.out.lt q h).1
              have hnbB : (Value.slice A2 s d2).ownBlock ≠ some g := hapt g o hB
              have hgH : g < wr.heap.size := hgl
              have LT2 := Lib.hid lt2
              have nx0 : (wr.heap.size = w.heap.size) = False := eq_false (by omega)
              have nx1 : (wr.heap.size = w.heap.size + 1) = False := eq_false (by omega)
              have nx2 : (wr.heap.size = b4) = False := eq_false (by omega)
              have nx3 : (wr.heap.size = g) = False := eq_false (by omega)
              have ny0 : (w.heap.size = wr.heap.size) = False := eq_false (by omega)
              have ny1 : (w.heap.size + 1 = wr.heap.size) = False := eq_false (by omega)
              have ny2 : (b4 = wr.heap.size) = False := eq_false (by omega)
              have ny3 : (g = wr.heap.size) = False := eq_false (by omega)
              have hx0 : w.heap.size < wr.heap.size := by omega
              have hx1 : w.heap.size + 1 < wr.heap.size := by omega
              have hrp : RowAt (wr.alloc (.cells #[.int .i64 (clampI x)] 3)).drew B ((distZ (roundsE es (srcS i) N).1 N).map intV) := (HRW.out.below ((Below.refl _ _).alloc (Nat.le_refl _) _)).of_heap rfl
              have hgb := HBB.out g o hB
              have hgb4 : g ≠ b4 := by omega
              have HRP := Lib.hid hrp
              clear hrp hgb
              have hB5 : Below w.heap.size w (wr.alloc (.cells #[.int .i64 (clampI x)] 3)).drew := (by repeat (first | exact Below.refl _ _ | refine below_step (by assumption) (by first | omega | (simp; done) | (simp; omega)) ?_ | refine below_drewN ?_ _ | refine Below.drew ?_ | refine Below.setCell ?_ (by first | omega | (simp; done) | (simp; omega)) _ | refine Below.alloc ?_ (by first | omega | (simp; done) | (simp; omega)) _))
              have HB5 := Lib.hid hB5
              subst hB
              clear nb lt2 hcg hx hrow hB5
              go_wp2_with fail
              go_region_law (first | (refine step_append_lies _ rfl _ _ 33 rfl (b4 + 1) 3 i0 (.int .i64 0) 1 8 Try.underlying33 hi hz0 hz1 hz2 rfl (by decide) _ _ _ rfl (by first | exact own_drew (HOW.out.alloc _) | exact (own_drew HOW.out).alloc _) ⟨_, 0, none⟩ 1 1 [.int .i64 (clampI x)] rfl rfl (by first | exact cell_one_new _ _ _ | exact cell_one_drew _ _ _) (fun u hu => by simp at hu; subst hu; rfl) (by decide) (by unfold maxLen; omega) (by omega) (by first | omega | (simp; done) | (simp; omega)) _ rfl ?_; intro g5 cap w5 ho5 hg5 hat5 hl5; have k0 := grown_cell hg5 (b := w.heap.size) (o := 0) (v := .int .i64 N) (by go_simp) nb0; have k1 := grown_cell hg5 (b := w.heap.size) (o := 1) (v := .slice A k c) (by go_simp) nb0; have k2 := grown_cell hg5 (b := w.heap.size + 1) (o := 0) (v := .int .i64 0) (by go_simp) nb1; have k3 := grown_cell hg5 (b := w.heap.size + 1) (o := 1) (v := .slice none 0 0) (by go_simp) nb1; have k4 := grown_cell hg5 (b := b4) (o := 0) (v := .int .i64 N) (by go_simp) nb3; have k5 := grown_cell hg5 (b := b4) (o := 1) (v := .slice A2 s d2) (by go_simp) nb3; have h0 := grown_free hg5 (b := w.heap.size + 1) (o := 0) (by first | omega | (simp; done) | (simp; omega)) (by go_simp) nb1; have h1 := grown_free hg5 (b := w.heap.size + 1) (o := 1) (by first | omega | (simp; done) | (simp; omega)) (by go_simp) nb1; have h2 := grown_free hg5 (b := b4) (o := 1) (by first | omega | (simp; done) | (simp; omega)) (by go_simp) nb3; have sz5 : b4 < w5.heap.size := Nat.lt_of_lt_of_le (by first | omega | (simp; done) | (simp; omega)) hg5.size; have B5 : Below w.heap.size w w5 := HB5.out.grown hg5 (by have := HB5.out.size; exact this) (fun q hq => by have := LT2.out q hq; omega); have HO5 := Lib.hid ho5; have HRW5 := Lib.hid (row_grownC HRP.out hg5 hnbB); have hown5 : ∀ g2, (Value.slice (some ⟨g5, 0, none⟩) (s + 1) cap).ownBlock = some g2 → g2 ≠ g := own_new hat5 hnbB (by first | omega | (simp; done) | (simp; omega)); have HN5 := Lib.hid hown5) | (go_simp; go_at_call 106; refine (HA.out _).mono ?_; rintro e w4 ⟨rfl, rfl⟩))
              all_goals
                have hnx := cgL_next N es i j
                have ho6 := HO5.out
                rw [show ([Value.int .i64 (clampI x)] : List Value) = [cgH N es i j].map intV from by rw [HCG.out]; rfl, ← List.map_append, ← hnx] at ho6
                have HO6 := Lib.hid ho6
                clear ho6 hnx HO5
                go_wp2_with fail
                go_roundw
                case rel => exact ⟨j + 1, by omega, by go_num, row_set HRW5.out hgb4, s + 1, some ⟨g5, 0, none⟩, cap, by rw [HSS.out, Nat.add_assoc], by go_simp, by go_simp, by go_simp, by go_simp, by go_simp, by go_simp, by go_simp, by go_simp, by go_simp, own_set HO6.out _ _ (by dsimp only; omega), by simpa [World.setCell] using sz5, fun g2 o2 e h => by (injection e with e; injection e with e; exact HN5.out _ h e.symm), (by repeat (first | exact Below.refl _ _ | refine below_step (by assumption) (by first | omega | (simp; done) | (simp; omega)) ?_ | refine below_drewN ?_ _ | refine Below.drew ?_ | refine Below.setCell ?_ (by first | omega | (simp; done) | (simp; omega)) _ | refine Below.alloc ?_ (by first | omega | (simp; done) | (simp; omega)) _))⟩
                case measure => simp [intOf]; omega
            · have hjn : j = N := by omega
              have hin2 : ∃ (s : Nat) (A2 : Option Addr) (d2 : Nat), s = i * N + j ∧ wr.cell? ⟨w.heap.size, 0, none⟩ = some (.int .i64 N) ∧ wr.cell? ⟨w.heap.size, 1, none⟩ = some (.slice A k c) ∧ wr.cell? ⟨w.heap.size + 1, 0, none⟩ = some (.int .i64 0) ∧ wr.cell? ⟨w.heap.size + 1, 1, none⟩ = some (.slice none 0 0) ∧ wr.frozen? ⟨w.heap.size + 1, 0, none⟩ = false ∧ wr.frozen? ⟨w.heap.size + 1, 1, none⟩ = false ∧ wr.cell? ⟨b4, 0, none⟩ = some (.int .i64 N) ∧ wr.cell? ⟨b4, 1, none⟩ = some (.slice A2 s d2) ∧ wr.frozen? ⟨b4, 1, none⟩ = false ∧ wr.ownsRow (b4 + 1) 3 1 (.slice A2 s d2) s ((cgL N es i j).map intV) ∧ b4 < wr.heap.size ∧ Below w.heap.size w wr := by obtain ⟨s, A2, d2, x1, x2, x3, x4, x5, x6, x7, x8, x9, x10, x11, x12, _, x14⟩ := HIN.out; exact ⟨s, A2, d2, x1, x2, x3, x4, x5, x6, x7, x8, x9, x10, x11, x12, x14⟩
              rw [hjn, cgL_row, show i * N + N = (i + 1) * N + 0 from by rw [Nat.succ_mul]; rfl] at hin2
              have HIN2 := Lib.hid hin2
              clear hin2 HIN HOW HSS
              go_wp2_with fail
              go_roundw
              case rel => exact ⟨i + 1, by omega, by go_num, HN1.out, HIN2.out⟩
              case measure => simp [intOf]; omega
        · have HNO := Lib.hid (fun w' => CgEnd.no (n := (N : Int)) (es := es) (w := w) (w' := w') (by rw [Int.toNat_natCast, closeOk_not hiN hrd]; simp))
          have hsf := HSF.out (i : Int)
          rw [shortR_neg hrd] at hsf
          dsimp only at hsf
          have HS1 := Lib.hid hsf
          clear hsf hrd
          go_wp2_with fail
          refine (HS1.out _ (HR.out.below hbw)).mono ?_
          rintro e w2 ⟨B, m, cb, rfl, hm, hown, _, b2⟩
          have d10 : w2.cell? ⟨w.heap.size, 0, none⟩ = some (.int .i64 N) := (b2.cell (p := ⟨w.heap.size, 0, none⟩) (by dsimp only; omega)).trans c0
          have d11 : w2.cell? ⟨w.heap.size, 1, none⟩ = some (.slice A k c) := (b2.cell (p := ⟨w.heap.size, 1, none⟩) (by dsimp only; omega)).trans c1
          have d12 : w2.cell? ⟨w.heap.size + 1, 0, none⟩ = some (.int .i64 0) := (b2.cell (p := ⟨w.heap.size + 1, 0, none⟩) (by dsimp only; omega)).trans c2
          have d13 : w2.cell? ⟨w.heap.size + 1, 1, none⟩ = some (.slice none 0 0) := (b2.cell (p := ⟨w.heap.size + 1, 1, none⟩) (by dsimp only; omega)).trans c3
          have y0 : w2.frozen? ⟨w.heap.size + 1, 0, none⟩ = false := (b2.frozen (p := ⟨w.heap.size + 1, 0, none⟩) (by dsimp only; omega)).trans z0
          have y1 : w2.frozen? ⟨w.heap.size + 1, 1, none⟩ = false := (b2.frozen (p := ⟨w.heap.size + 1, 1, none⟩) (by dsimp only; omega)).trans z1
          have s2 : w.heap.size + 1 < w2.heap.size := Nat.lt_of_lt_of_le hsz1 b2.size
          have B2 : Below w.heap.size w w2 := hbw.trans (b2.mono hbw.size)
          clear hm hown b2
          go_wp2_with fail
          refine bodyPost_ret (v := .tuple #[.agg #[.int .i64 0, .slice none 0 0], .bool false]) (by first | (simp [results, Try.results91, go_sem]; done) | simp [*, results, Try.results91, go_sem]) rfl (HNO.out _ (by repeat (first | exact Below.refl _ _ | refine below_step (by assumption) (by first | omega | (simp; done) | (simp; omega)) ?_ | refine below_drewN ?_ _ | refine Below.drew ?_ | refine Below.setCell ?_ (by first | omega | (simp; done) | (simp; omega)) _ | refine Below.alloc ?_ (by first | omega | (simp; done) | (simp; omega)) _)))
      · have hin : i = N := by omega
        have hall := HALL.out
        rw [hin] at hall
        have HYES := Lib.hid (closeR_yes HO.out (closeOk_all hall))
        have hs2 := HSS.out
        have ho2 := HOW.out
        rw [hin, cgL_all] at ho2
        rw [hin, Nat.add_zero] at hs2
        have HOW2 := Lib.hid ho2
        have HS2 := Lib.hid hs2
        clear hall HOW HSS HIN hs2 ho2
        go_wp2_with fail
        refine bodyPost_ret (v := tgV N A2 s d2 true) (by first | (simp [results, Try.results91, go_sem, tgV, grV]; done) | simp [*, results, Try.results91, go_sem, tgV, grV]) rfl ?_
        unfold CgEnd
        rw [HYES.out]
        refine ⟨A2, s, d2, rfl, by rw [HS2.out, close_length], ?_, (by repeat (first | exact Below.refl _ _ | refine below_step (by assumption) (by first | omega | (simp; done) | (simp; omega)) ?_ | refine below_drewN ?_ _ | refine Below.drew ?_ | refine Below.setCell ?_ (by first | omega | (simp; done) | (simp; omega)) _ | refine Below.alloc ?_ (by first | omega | (simp; done) | (simp; omega)) _))⟩
        refine own_base (B := b4 + 1) ?_ (by omega)
        repeat (refine own_set ?_ _ _ (by dsimp only; omega))
        exact HOW2.out

end Go.Proofs.Yteppmlepbfjnpaa

