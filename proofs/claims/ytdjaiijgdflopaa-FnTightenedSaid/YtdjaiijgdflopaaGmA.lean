/-
  WALKS of spec.l03Draw and spec.MakeGraph: a graph that is drawn is valid, small, and lies in memory of its own.
-/
import Derived.Test.YtdjaiijgdflopaaDraw
import Derived.Test.YtdjaiijgdflopaaGdE
import Derived.Test.YtdjaiijgdflopaaMathF
import Derived.Deep.RegionLaw
import Derived.Deep.AppendLies
import Derived.Deep.CutRange
namespace Go.Proofs.Ytdjaiijgdflopaa
open Go.RowKit
set_option linter.unusedVariables false
set_option linter.unusedSimpArgs false

/-- An edge that is drawn. -/
def DrE (N : Nat) (e : GE) : Prop := 0 ≤ e.u ∧ e.u < N ∧ 0 ≤ e.v ∧ e.v < N ∧ -3 ≤ e.c ∧ e.c ≤ 10
theorem grown_more {w w1 w2 : World} {g0 : Nat} {row : Option Nat} (h : w.grownBy w1 (some g0)) (h2 : w1.grownBy w2 row) (hr : ∀ q, row = some q → w.heap.size ≤ q ∨ q = g0) : w.grownBy w2 (some g0) :=
  ⟨h2.os.trans h.os, h2.tape.trans h.tape, h2.output.trans h.output, Nat.le_trans h.size h2.size, fun k hk hne => (h2.block k (Nat.lt_of_lt_of_le hk h.size) (fun e => by
    rcases hr k e.symm with h1 | h1
    · omega
    · exact hne (by rw [h1]))).trans (h.block k hk hne)⟩
theorem grown_setCell {w w1 : World} {g0 : Nat} (h : w.grownBy w1 (some g0)) {b q : Nat} (hb : w.heap.size ≤ b) (x : Value) : w.grownBy (w1.setCell ⟨b, q, none⟩ x) (some g0) :=
  grown_more h (row_grown (g := b)) (fun q hq => .inl (by injection hq with hq; omega))
theorem cells_one (e : GE) : cellsE [e] = e.cells := by simp [cellsE]
theorem dr_all {N : Nat} {es : List GE} {e1 : GE} (h : ∀ x ∈ es, DrE N x) (h1 : DrE N e1) : ∀ x ∈ es ++ [e1], DrE N x := by
  intro x hx
  rcases List.mem_append.1 hx with h2 | h2
  · exact h x h2
  · simp at h2
    subst h2
    exact h1
theorem wrap3 (x : {x : Nat // x < 14}) : IntKind.i64.wrap ((x.1 : Int) - 3) = (x.1 : Int) - 3 := by
  have := x.2
  exact (IntWalk.i64_left _).trans (by unfold wrap64; omega)
theorem dr_own {W : World} {B m N : Nat} {t : TypeId} {v : Value} {es : List GE} {v1 v2 : {x : Nat // x < N}} {v3 : {x : Nat // x < 14}} (h : W.ownsRow B t 3 v m (cellsE es ++ [.int .i64 (v1.1 : Int), .int .i64 (v2.1 : Int), .int .i64 ((v3.1 : Int) - 3)])) :
    ∃ e, DrE N e ∧ W.ownsRow B t 3 v m (cellsE (es ++ [e])) :=
  ⟨⟨v1.1, v2.1, (v3.1 : Int) - 3⟩, by have := v1.2; have := v2.2; have := v3.2; unfold DrE; dsimp only; omega, by rw [cellsE_append, cells_one]; exact h⟩
theorem row_grown' {w : World} {g j : Nat} {u : Value} : w.grownBy (w.setCell ⟨g, j, none⟩ u) (some g) := row_grown

set_option maxRecDepth 100000 in
set_option maxHeartbeats 16000000 in
theorem l03Draw_any (g0 : Nat) (A : Option Addr) (n c : Nat) (w : World) (hm : n ≤ 1048576) (hcur : Cur w g0 A n c) (hby : Bytes w g0 A n) :
    Calls Try.prog 49 #[.pointer (some ⟨g0, 0, none⟩)] w fun e w' =>
      ∃ (N : Nat) (es : List GE) (B : Option Addr) (k cb : Nat), e = .returned (grV N B k cb) ∧ 1 ≤ N ∧ N ≤ 5 ∧ es.length = k ∧ k ≤ 9 ∧ (∀ x ∈ es, DrE N x) ∧ w'.ownsRow w.heap.size 35 3 (.slice B k cb) k (cellsE es) ∧ w.grownBy w' (some g0) := by
  have hg0 := hcur.lt
  have HB := Lib.hid (fun (m : Nat) (W : World) (h0 : 0 < m) (h1 : m ≤ 256) (hc : Cur W g0 A n c) (hg : w.grownBy W (some g0)) => l01Below_small m g0 A n c W h0 h1 hm hc (hby.grown hg))
  obtain ⟨i0, hi, hz0, hz1, hz2⟩ := info_parts Try.info35
  have HC := Lib.hid hcur
  clear hcur hby
  go_enter Try.func49, Try.ntmps49
  go_wp2_with fail
  have hb5 := HB.out 5
  rw [show ((5 : Nat) : Int) = 5 from rfl] at hb5
  refine (hb5 _ (by decide) (by decide) (HC.out.alloc _) (World.grownBy_alloc _ _ _)).mono ?_
  rintro e w1 ⟨x, rfl, hx, hc1, hg1⟩
  obtain ⟨N, hNx⟩ : ∃ N, N = 1 + x := ⟨_, rfl⟩
  have HN := Lib.hid hNx
  have hxN : (1 : Int) + (x : Int) = (N : Int) := by omega
  clear hNx
  have a0 := grown_cell hg1 (b := w.heap.size) (o := 0) (v := .int .i64 0) (by go_simp) (fun e => by injection e with e; omega)
  have a1 := grown_cell hg1 (b := w.heap.size) (o := 1) (v := .slice none 0 0) (by go_simp) (fun e => by injection e with e; omega)
  have f0 := grown_free hg1 (b := w.heap.size) (o := 0) (by simp) (by go_simp) (fun e => by injection e with e; omega)
  have f1 := grown_free hg1 (b := w.heap.size) (o := 1) (by simp) (by go_simp) (fun e => by injection e with e; omega)
  have s1 : w.heap.size < w1.heap.size := Nat.lt_of_lt_of_le (by simp) hg1.size
  have G1 : w.grownBy w1 (some g0) := grown_trans (World.grownBy_alloc _ _ _) hg1
  obtain ⟨b3, hb3⟩ : ∃ b, b = w1.heap.size := ⟨_, rfl⟩
  obtain ⟨w2, hw2⟩ : ∃ W, W = w1.alloc (.cells #[.int .i64 N, .slice none 0 0] 25) := ⟨_, rfl⟩
  have ba : Below w1.heap.size w1 w2 := by rw [hw2]; exact (Below.refl _ _).alloc (Nat.le_refl _) _
  have c0 : w2.cell? ⟨w.heap.size, 0, none⟩ = some (.int .i64 0) := (ba.cell (p := ⟨w.heap.size, 0, none⟩) (by dsimp only; omega)).trans a0
  have c1 : w2.cell? ⟨w.heap.size, 1, none⟩ = some (.slice none 0 0) := (ba.cell (p := ⟨w.heap.size, 1, none⟩) (by dsimp only; omega)).trans a1
  have c2 : w2.cell? ⟨b3, 0, none⟩ = some (.int .i64 N) := by rw [hw2, hb3]; go_simp
  have c3 : w2.cell? ⟨b3, 1, none⟩ = some (.slice none 0 0) := by rw [hw2, hb3]; go_simp
  have z0 : w2.frozen? ⟨w.heap.size, 0, none⟩ = false := (ba.frozen (p := ⟨w.heap.size, 0, none⟩) (by dsimp only; omega)).trans f0
  have z1 : w2.frozen? ⟨w.heap.size, 1, none⟩ = false := (ba.frozen (p := ⟨w.heap.size, 1, none⟩) (by dsimp only; omega)).trans f1
  have z2 : w2.frozen? ⟨b3, 1, none⟩ = false := by rw [hw2, hb3]; go_simp
  have s2 : b3 < w2.heap.size := by rw [hw2, hb3]; simp
  have hwb : w.heap.size < b3 := by omega
  have hC2 : Cur w2 g0 A n c := by rw [hw2]; exact hc1.alloc _
  have G2 : w.grownBy w2 (some g0) := by rw [hw2]; exact grown_alloc G1 _
  go_upto_region 2 with (fail)
  rw [← hw2, ← hb3]
  have HC2 := Lib.hid hC2
  have HG2 := Lib.hid G2
  clear hw2 hb3 ba a0 a1 f0 f1 s1 G1 G2 hC2 hc1 hg1 hxN
  have ng0 : (some g0 : Option Nat) ≠ some w.heap.size := fun e => by injection e with e; omega
  have ng1 : (some g0 : Option Nat) ≠ some b3 := fun e => by injection e with e; omega
  go_wp2_with fail
  have hb10 := HB.out 10
  rw [show ((10 : Nat) : Int) = 10 from rfl] at hb10
  refine (hb10 _ (by decide) (by decide) HC2.out HG2.out).mono ?_
  rintro e w3 ⟨y, rfl, hy, hc3, hg3⟩
  have d0 := grown_cell hg3 (b := w.heap.size) (o := 0) (v := .int .i64 0) c0 ng0
  have d1 := grown_cell hg3 (b := w.heap.size) (o := 1) (v := .slice none 0 0) c1 ng0
  have d2 := grown_cell hg3 (b := b3) (o := 0) (v := .int .i64 N) c2 ng1
  have d3 := grown_cell hg3 (b := b3) (o := 1) (v := .slice none 0 0) c3 ng1
  have y0 := grown_free hg3 (b := w.heap.size) (o := 0) (by omega) z0 ng0
  have y1 := grown_free hg3 (b := w.heap.size) (o := 1) (by omega) z1 ng0
  have y2 := grown_free hg3 (b := b3) (o := 1) (by omega) z2 ng1
  have s3 : b3 < w3.heap.size := Nat.lt_of_lt_of_le s2 hg3.size
  have G3 : w.grownBy w3 (some g0) := grown_trans HG2.out hg3
  have HC3 := Lib.hid hc3
  have HG3 := Lib.hid G3
  clear hg3 c0 c1 c2 c3 z0 z1 z2 s2 HC2 HG2 hc3 G3 hb10 hb5
  go_wp2_with fail
  go_loopw [4] (fun ii wr => ∃ (j s : Nat) (es : List GE) (A2 : Option Addr) (d2 : Nat), ii = .int .i64 j ∧ j + s ≤ 9 ∧ s = es.length ∧ (∀ x ∈ es, DrE N x) ∧ wr.cell? ⟨w.heap.size, 0, none⟩ = some (.int .i64 0) ∧ wr.cell? ⟨w.heap.size, 1, none⟩ = some (.slice none 0 0) ∧ wr.cell? ⟨b3, 0, none⟩ = some (.int .i64 N) ∧ wr.cell? ⟨b3, 1, none⟩ = some (.slice A2 s d2) ∧ wr.frozen? ⟨w.heap.size, 0, none⟩ = false ∧ wr.frozen? ⟨w.heap.size, 1, none⟩ = false ∧ wr.frozen? ⟨b3, 1, none⟩ = false ∧ wr.ownsRow (b3 + 1) 35 3 (.slice A2 s d2) s (cellsE es) ∧ b3 < wr.heap.size ∧ Cur wr g0 A n c ∧ w.grownBy wr (some g0)) (fun ii _ => (intOf ii).toNat)
  case atStart => exact ⟨y, 0, [], none, 0, rfl, by omega, rfl, fun x hx => by simp at hx, d0, d1, d2, d3, y0, y1, y2, World.ownsRow_nil _ _ _ _, s3, HC3.out, HG3.out⟩
  case round =>
    clear d0 d1 d2 d3 y0 y1 y2 s3 HC3 HG3
    obtain ⟨j, s, es, A2, d2, rfl, hjs, hs, hes, c0, c1, c2, c3, z0, z1, z2, hown, hsz, hcur, hgr⟩ := hrel
    have HS := Lib.hid hs
    have HES := Lib.hid hes
    have HOW := Lib.hid hown
    have HCR := Lib.hid hcur
    have HGR := Lib.hid hgr
    by_cases hj : 0 < j
    · have lt := hown.lt
      have hNN : 0 < N := by have := HN.out; omega
      have hN5 : N ≤ 256 := by have := HN.out; omega
      have LT := Lib.hid (fun q h => (lt q h).1)
      have AP := Lib.hid (show (Value.slice A2 s d2).ownBlock = none ∨ (Value.slice A2 s d2).ownBlock ≠ some g0 from by
        cases hb : (Value.slice A2 s d2).ownBlock with
        | none => exact .inl rfl
        | some q => exact .inr (fun e => by injection e with e; have := (lt q hb).1; omega))
      have NG := Lib.hid (show (Value.slice A2 s d2).ownBlock ≠ some g0 from fun h => by have := (lt _ h).1; omega)
      have nb0 : (Value.slice A2 s d2).ownBlock ≠ some w.heap.size := fun h => by have := (lt _ h).1; omega
      have nb1 : (Value.slice A2 s d2).ownBlock ≠ some b3 := fun h => by have := (lt _ h).1; omega
      have HBN := Lib.hid (fun W hc hg => (HB.out N W hNN hN5 hc hg).mono (R' := fun e w' => ∃ v : {x : Nat // x < N}, e = .returned (.int .i64 (v.1 : Int)) ∧ Cur w' g0 A n c ∧ W.grownBy w' (some g0)) (fun e w' ⟨x, h1, h2, h3, h4⟩ => ⟨⟨x, h2⟩, h1, h3, h4⟩))
      have hb14 := fun W hc hg => (HB.out 14 W (by decide) (by decide) hc hg).mono (R' := fun e w' => ∃ v : {x : Nat // x < 14}, e = .returned (.int .i64 (v.1 : Int)) ∧ Cur w' g0 A n c ∧ W.grownBy w' (some g0)) (fun e w' ⟨x, h1, h2, h3, h4⟩ => ⟨⟨x, h2⟩, h1, h3, h4⟩)
      rw [show ((14 : Nat) : Int) = 14 from rfl] at hb14
      have HB14 := Lib.hid hb14
      have hs72 : s + 1 ≤ 72 := by omega
      have x0 : w.heap.size < wr.heap.size := by omega
      clear lt hs hes hown hcur hgr hb14
      go_wp2_with fail
      go_region_law (first | (refine step_append_lies _ rfl _ _ 23 rfl (b3 + 1) 35 i0 (.agg #[.int .i64 0, .int .i64 0, .int .i64 0]) 3 24 Try.underlying23 hi hz0 hz1 hz2 rfl (by decide) _ _ _ rfl (HO4.out.alloc _) ⟨_, 0, none⟩ 1 1 _ rfl rfl (World.news_of_block (heap_alloc_new _ _)) (fun u hu => by simp at hu; rcases hu with rfl | rfl | rfl <;> rfl) (by decide) (by unfold maxLen; omega) (by omega) (by first | omega | (simp; done) | (simp; omega)) _ rfl ?_; intro g5 cap w5 ho5 hg5 hat5 hl5; have k0 := grown_cell hg5 (b := w.heap.size) (o := 0) (v := .int .i64 0) (by go_simp) nb0; have k1 := grown_cell hg5 (b := w.heap.size) (o := 1) (v := .slice none 0 0) (by go_simp) nb0; have k2 := grown_cell hg5 (b := b3) (o := 0) (v := .int .i64 N) (by go_simp) nb1; have k3 := grown_cell hg5 (b := b3) (o := 1) (v := .slice A2 s d2) (by go_simp) nb1; have h0 := grown_free hg5 (b := w.heap.size) (o := 0) (by first | omega | (simp; done) | (simp; omega)) (by go_simp) nb0; have h1 := grown_free hg5 (b := w.heap.size) (o := 1) (by first | omega | (simp; done) | (simp; omega)) (by go_simp) nb0; have h2 := grown_free hg5 (b := b3) (o := 1) (by first | omega | (simp; done) | (simp; omega)) (by go_simp) nb1; have sz5 : b3 < w5.heap.size := Nat.lt_of_lt_of_le (by first | omega | (simp; done) | (simp; omega)) hg5.size; have G5 : w.grownBy w5 (some g0) := grown_more (grown_alloc G4 _) hg5 (fun q hq => .inl (by have := LT.out q hq; omega)); have HO5 := Lib.hid (dr_own ho5); have HC5 := Lib.hid (Cur.kept (hc4.alloc _) (hg5.block g0 (by have := hc4.lt; simp; omega) (fun e => NG.out e.symm)))) | (go_simp; go_at_call_of 87 (Value.int .i64 N); refine (HBN.out _ (by first | exact hc4 | exact HCR.out) (by first | exact G4 | exact grown_drew HGR.out)).mono ?_; rintro e w4 ⟨xa, rfl, hc4, hg4⟩; have k0 := grown_cell hg4 (b := w.heap.size) (o := 0) (v := .int .i64 0) (by first | assumption | go_simp) ng0; have k1 := grown_cell hg4 (b := w.heap.size) (o := 1) (v := .slice none 0 0) (by first | assumption | go_simp) ng0; have k2 := grown_cell hg4 (b := b3) (o := 0) (v := .int .i64 N) (by first | assumption | go_simp) ng1; have k3 := grown_cell hg4 (b := b3) (o := 1) (v := .slice A2 s d2) (by first | assumption | go_simp) ng1; have h0 := grown_free hg4 (b := w.heap.size) (o := 0) (by first | omega | (simp; done) | (simp; omega)) (by first | assumption | go_simp) ng0; have h1 := grown_free hg4 (b := w.heap.size) (o := 1) (by first | omega | (simp; done) | (simp; omega)) (by first | assumption | go_simp) ng0; have h2 := grown_free hg4 (b := b3) (o := 1) (by first | omega | (simp; done) | (simp; omega)) (by first | assumption | go_simp) ng1; have sz4 : b3 < w4.heap.size := Nat.lt_of_lt_of_le (by first | omega | (simp; done) | (simp; omega)) hg4.size; have G4 : w.grownBy w4 (some g0) := grown_trans (by first | exact G4 | exact grown_drew HGR.out) hg4; have HO4 := Lib.hid (World.ownsRow.kept (w := _) (by first | exact HO4.out | exact own_drew HOW.out) hg4 AP.out); have x0 : w.heap.size < w4.heap.size := (by omega); have nx0 : (w4.heap.size = w.heap.size) = False := eq_false (by omega); have nx1 : (w4.heap.size = b3) = False := eq_false (by omega); have ny0 : (w.heap.size = w4.heap.size) = False := eq_false (by omega); have ny1 : (b3 = w4.heap.size) = False := eq_false (by omega)) | (go_simp; go_at_call_of 87 (Value.int .i64 14); refine (HB14.out _ (by first | exact hc4 | exact HCR.out) (by first | exact G4 | exact grown_drew HGR.out)).mono ?_; rintro e w4 ⟨xc, rfl, hc4, hg4⟩; have nw := wrap3 xc; have k0 := grown_cell hg4 (b := w.heap.size) (o := 0) (v := .int .i64 0) (by first | assumption | go_simp) ng0; have k1 := grown_cell hg4 (b := w.heap.size) (o := 1) (v := .slice none 0 0) (by first | assumption | go_simp) ng0; have k2 := grown_cell hg4 (b := b3) (o := 0) (v := .int .i64 N) (by first | assumption | go_simp) ng1; have k3 := grown_cell hg4 (b := b3) (o := 1) (v := .slice A2 s d2) (by first | assumption | go_simp) ng1; have h0 := grown_free hg4 (b := w.heap.size) (o := 0) (by first | omega | (simp; done) | (simp; omega)) (by first | assumption | go_simp) ng0; have h1 := grown_free hg4 (b := w.heap.size) (o := 1) (by first | omega | (simp; done) | (simp; omega)) (by first | assumption | go_simp) ng0; have h2 := grown_free hg4 (b := b3) (o := 1) (by first | omega | (simp; done) | (simp; omega)) (by first | assumption | go_simp) ng1; have sz4 : b3 < w4.heap.size := Nat.lt_of_lt_of_le (by first | omega | (simp; done) | (simp; omega)) hg4.size; have G4 : w.grownBy w4 (some g0) := grown_trans (by first | exact G4 | exact grown_drew HGR.out) hg4; have HO4 := Lib.hid (World.ownsRow.kept (w := _) (by first | exact HO4.out | exact own_drew HOW.out) hg4 AP.out); have x0 : w.heap.size < w4.heap.size := (by omega); have nx0 : (w4.heap.size = w.heap.size) = False := eq_false (by omega); have nx1 : (w4.heap.size = b3) = False := eq_false (by omega); have ny0 : (w.heap.size = w4.heap.size) = False := eq_false (by omega); have ny1 : (b3 = w4.heap.size) = False := eq_false (by omega)))
      all_goals
        obtain ⟨e1, he1, ho6⟩ := HO5.out
        have HO6 := Lib.hid ho6
        have HE1 := Lib.hid (dr_all HES.out he1)
        clear ho6 he1 HO5 hc4 hg4 hg5 hat5 ho5
        go_wp2_with fail
        go_roundw
        case rel => exact ⟨j - 1, s + 1, es ++ [e1], some ⟨g5, 0, none⟩, cap, by go_num, by omega, by rw [List.length_append, ← HS.out]; rfl, HE1.out, by go_simp, by go_simp, by go_simp, by go_simp, by go_simp, by go_simp, by go_simp, own_set HO6.out _ _ (by dsimp only; omega), by simpa [World.setCell] using sz5, HC5.out.kept (Below.heap_setCell _ _ _ _ (by dsimp only; omega)), grown_setCell G5 (by omega) _⟩
        case measure => simp [intOf]; omega
    · have hj0 : j = 0 := by omega
      subst hj0
      go_wp2_with fail
      refine bodyPost_ret (v := grV N A2 s d2) (by first | (simp [results, Try.results49, go_sem, grV]; done) | simp [*, results, Try.results49, go_sem, grV]) rfl ⟨N, es, A2, s, d2, rfl, by have := HN.out; omega, by have := HN.out; omega, HS.out.symm, by omega, HES.out, ?_, ?_⟩
      · refine own_base (B := b3 + 1) ?_ (by omega)
        repeat (refine own_set ?_ _ _ (by dsimp only; omega))
        exact HOW.out
      · repeat (refine grown_setCell ?_ (Nat.le_refl _) _)
        exact HGR.out

end Go.Proofs.Ytdjaiijgdflopaa
