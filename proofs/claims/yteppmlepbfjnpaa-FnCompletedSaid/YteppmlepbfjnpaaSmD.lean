/-
  WALKS of spec.l05Draw and spec.MakeSimple: a network that is drawn is valid, small, and each event but the first has a link from an earlier one.
-/
import Derived.Test.YteppmlepbfjnpaaBdSmL
import Derived.Test.YteppmlepbfjnpaaIvD
import Derived.Deep.RegionLaw
import Derived.Deep.AppendLies
import Derived.Deep.CutRange
namespace Go.Proofs.Yteppmlepbfjnpaa
open Go.RowKit
set_option linter.unusedVariables false
set_option linter.unusedSimpArgs false

/-- A link that is drawn for event j; a link that is drawn. -/
def DrJ (j : Int) (e : GL) : Prop := e.t = j ∧ 0 ≤ e.f ∧ e.f < j ∧ 0 ≤ e.l ∧ e.l ≤ e.h ∧ e.h ≤ 9
def DrL (N : Int) (e : GL) : Prop := 0 ≤ e.f ∧ e.f < N ∧ 0 ≤ e.t ∧ e.t < N ∧ DrawnI e.l e.h
/-- The links of a network that is drawn. -/
def DrS (N : Nat) (ls : List GL) : Prop := (∀ e ∈ ls, DrL N e) ∧ ∀ j : Nat, 1 ≤ j → j < N → ∃ e ∈ ls, DrJ j e
theorem DrJ.link {j : Int} {e : GL} {N : Int} (h : DrJ j e) (hj : j < N) : DrL N e := by
  obtain ⟨h1, h2, h3, h4, h5, h6⟩ := h
  unfold DrL DrawnI
  omega
theorem DrS.snoc {N : Nat} {ls : List GL} {e : GL} (h : DrS N ls) (he : DrL N e) : DrS N (ls ++ [e]) := by
  refine ⟨fun x hx => ?_, fun j h1 h2 => ?_⟩
  · rcases List.mem_append.1 hx with h3 | h3
    · exact h.1 x h3
    · simp at h3; subst h3; exact he
  · obtain ⟨x, hx, hj⟩ := h.2 j h1 h2
    exact ⟨x, List.mem_append_left _ hx, hj⟩
/-- The first links: one for each event from 1 up to j. -/
def DrI (j : Nat) (ls : List GL) : Prop := ls.length = j ∧ ∀ i (h : i < ls.length), DrJ (i + 1 : Nat) ls[i]
theorem DrI.snoc {j : Nat} {ls : List GL} {e : GL} (h : DrI j ls) (he : DrJ (j + 1 : Nat) e) : DrI (j + 1) (ls ++ [e]) := by
  refine ⟨by rw [List.length_append, h.1]; rfl, fun i hi => ?_⟩
  by_cases hlt : i < ls.length
  · rw [List.getElem_append_left hlt]; exact h.2 i hlt
  · have hij : i = ls.length := by simp at hi; omega
    subst hij
    simp
    rw [h.1]
    exact_mod_cast he
theorem DrI.all {N : Nat} {ls : List GL} (h : DrI (N - 1) ls) : DrS N ls := by
  refine ⟨fun x hx => ?_, fun j h1 h2 => ?_⟩
  · obtain ⟨i, hi, rfl⟩ := List.getElem_of_mem hx
    exact (h.2 i hi).link (by have := h.1; omega)
  · have hl := h.1
    refine ⟨ls[j - 1]'(by omega), List.getElem_mem _, ?_⟩
    have := h.2 (j - 1) (by omega)
    rw [show j - 1 + 1 = j from by omega] at this
    exact this
theorem below_of_drawn {N : Nat} {ls : List GL} (hN : 1 ≤ N) (hN8 : N ≤ 8) (hl : ls.length ≤ 40) (h : DrS N ls) : okS N ls = true := by
  unfold okS
  rw [decide_eq_true ⟨by omega, by omega, hl⟩, Bool.true_and, List.all_eq_true]
  intro e he
  obtain ⟨h1, h2, h3, h4, h5⟩ := h.1 e he
  unfold okL
  rw [decide_eq_true ⟨h1, h2⟩, decide_eq_true ⟨h3, h4⟩, Bool.true_and, Bool.true_and]
  unfold okI
  unfold DrawnI at h5
  exact decide_eq_true (by omega)

/-- The state of the drawing: the result's box, the network's box, its links in memory of their own, the draws' cursor. -/
structure Dr5 (w W : World) (g0 b3 : Nat) (A : Option Addr) (n c N : Nat) (vc vr : Value) (s : Nat) (ls : List GL) : Prop where
  c0 : W.cell? ⟨w.heap.size, 0, none⟩ = some (.int .i64 0)
  c1 : W.cell? ⟨w.heap.size, 1, none⟩ = some (.slice none 0 0)
  c2 : W.cell? ⟨b3, 0, none⟩ = some (.int .i64 N)
  c3 : W.cell? ⟨b3, 1, none⟩ = some vc
  z0 : W.frozen? ⟨w.heap.size, 0, none⟩ = false
  z1 : W.frozen? ⟨w.heap.size, 1, none⟩ = false
  z2 : W.frozen? ⟨b3, 1, none⟩ = false
  row : W.ownsRow (b3 + 1) 76 4 vr s (cellsL ls)
  sz : b3 < W.heap.size
  lt0 : w.heap.size < b3
  g0lt : g0 < w.heap.size
  cur : Cur W g0 A n c
  gr : w.grownBy W (some g0)
theorem Dr5.facts {w W : World} {g0 b3 : Nat} {A : Option Addr} {n c N : Nat} {vc vr : Value} {s : Nat} {ls : List GL} (h : Dr5 w W g0 b3 A n c N vc vr s ls) : W.cell? ⟨w.heap.size, 0, none⟩ = some (.int .i64 0) ∧ W.cell? ⟨w.heap.size, 1, none⟩ = some (.slice none 0 0) ∧ W.cell? ⟨b3, 0, none⟩ = some (.int .i64 N) ∧ W.cell? ⟨b3, 1, none⟩ = some vc ∧ W.frozen? ⟨w.heap.size, 0, none⟩ = false ∧ W.frozen? ⟨w.heap.size, 1, none⟩ = false ∧ W.frozen? ⟨b3, 1, none⟩ = false ∧ b3 < W.heap.size ∧ w.heap.size < W.heap.size ∧ (W.heap.size = w.heap.size) = False ∧ (W.heap.size = b3) = False ∧ (w.heap.size = W.heap.size) = False ∧ (b3 = W.heap.size) = False :=
  ⟨h.c0, h.c1, h.c2, h.c3, h.z0, h.z1, h.z2, h.sz, Nat.lt_trans h.lt0 h.sz, eq_false (by have := h.sz; have := h.lt0; omega), eq_false (by have := h.sz; omega), eq_false (by have := h.sz; have := h.lt0; omega), eq_false (by have := h.sz; omega)⟩
theorem grown_freeD {w w' : World} {row : Option Nat} (hg : w.grownBy w' row) {b o : Nat} (hb : b < w.heap.size) (h : w.frozen? ⟨b, o, none⟩ = false) (hr : row ≠ some b) : w'.frozen? ⟨b, o, none⟩ = false :=
  (World.frozen?_of_block (a := ⟨b, o, none⟩) (hg.block b hb (fun e => hr e.symm))).trans h
theorem own_drewS {W : World} {B e s n : Nat} {v : Value} {xs : List Value} (h : W.ownsRow B e s v n xs) : W.drew.ownsRow B e s v n xs := own_below h ((Below.refl W.heap.size W).drew)
theorem grown_drewS {w W : World} {r : Option Nat} (h : w.grownBy W r) : w.grownBy W.drew r := grown_trans h (grown_of_below ((Below.refl W.heap.size W).drew))
theorem Dr5.drew {w W : World} {g0 b3 : Nat} {A : Option Addr} {n c N : Nat} {vc vr : Value} {s : Nat} {ls : List GL} (h : Dr5 w W g0 b3 A n c N vc vr s ls) : Dr5 w W.drew g0 b3 A n c N vc vr s ls :=
  ⟨h.c0, h.c1, h.c2, h.c3, h.z0, h.z1, h.z2, own_drewS h.row, h.sz, h.lt0, h.g0lt, h.cur, grown_drewS h.gr⟩
theorem Dr5.alloc {w W : World} {g0 b3 : Nat} {A : Option Addr} {n c N : Nat} {vc vr : Value} {s : Nat} {ls : List GL} (h : Dr5 w W g0 b3 A n c N vc vr s ls) (o : Obj) : Dr5 w (W.alloc o) g0 b3 A n c N vc vr s ls := by
  have hs := Nat.lt_trans h.lt0 h.sz
  have hb : Below W.heap.size W (W.alloc o) := (Below.refl _ _).alloc (Nat.le_refl _) o
  exact ⟨(hb.cell hs).trans h.c0, (hb.cell hs).trans h.c1, (hb.cell h.sz).trans h.c2, (hb.cell h.sz).trans h.c3, (hb.frozen hs).trans h.z0, (hb.frozen hs).trans h.z1, (hb.frozen h.sz).trans h.z2, h.row.alloc o, by have := h.sz; simp; omega, h.lt0, h.g0lt, h.cur.alloc o, grown_alloc h.gr o⟩
/-- Behind a draw. -/
theorem Dr5.call {w W : World} {g0 b3 : Nat} {A : Option Addr} {n c N : Nat} {vc vr : Value} {s : Nat} {ls : List GL} {W' : World} (h : Dr5 w W g0 b3 A n c N vc vr s ls) (hc : Cur W' g0 A n c) (hg : W.grownBy W' (some g0)) : Dr5 w W' g0 b3 A n c N vc vr s ls := by
  have hs := Nat.lt_trans h.lt0 h.sz
  have n0 : (some g0 : Option Nat) ≠ some w.heap.size := fun e => by injection e with e; have := h.g0lt; omega
  have n3 : (some g0 : Option Nat) ≠ some b3 := fun e => by injection e with e; have := h.g0lt; have := h.lt0; omega
  refine ⟨grown_cellS hg h.c0 n0, grown_cellS hg h.c1 n0, grown_cellS hg h.c2 n3, grown_cellS hg h.c3 n3, grown_freeD hg hs h.z0 n0, grown_freeD hg hs h.z1 n0, grown_freeD hg h.sz h.z2 n3, h.row.kept hg ?_, Nat.lt_of_lt_of_le h.sz hg.size, h.lt0, h.g0lt, hc, grown_trans h.gr hg⟩
  cases hb : vr.ownBlock with
  | none => exact .inl rfl
  | some q => exact .inr (fun e => by injection e with e; have := (h.row.lt q hb).1; have := h.g0lt; have := h.lt0; omega)
/-- Behind the append. -/
theorem Dr5.grow {w W : World} {g0 b3 : Nat} {A : Option Addr} {n c N : Nat} {vc vr : Value} {s : Nat} {ls : List GL} {W' : World} {vr' : Value} {s' : Nat} {ls' : List GL} (h : Dr5 w W g0 b3 A n c N vc vr s ls) (ho : W'.ownsRow (b3 + 1) 76 4 vr' s' (cellsL ls')) (hg : W.grownBy W' vr.ownBlock) : Dr5 w W' g0 b3 A n c N vc vr' s' ls' := by
  have hs := Nat.lt_trans h.lt0 h.sz
  have lt := fun q hq => (h.row.lt q hq).1
  have n0 : vr.ownBlock ≠ some w.heap.size := fun e => by have := lt _ e; have := h.lt0; omega
  have n3 : vr.ownBlock ≠ some b3 := fun e => by have := lt _ e; omega
  have ng : vr.ownBlock ≠ some g0 := fun e => by have := lt _ e; have := h.g0lt; have := h.lt0; omega
  refine ⟨grown_cellS hg h.c0 n0, grown_cellS hg h.c1 n0, grown_cellS hg h.c2 n3, grown_cellS hg h.c3 n3, grown_freeD hg hs h.z0 n0, grown_freeD hg hs h.z1 n0, grown_freeD hg h.sz h.z2 n3, ho, Nat.lt_of_lt_of_le h.sz hg.size, h.lt0, h.g0lt, h.cur.kept (hg.block g0 h.cur.lt (fun e => ng e.symm)), ?_⟩
  exact ⟨hg.os.trans h.gr.os, hg.tape.trans h.gr.tape, hg.output.trans h.gr.output, Nat.le_trans h.gr.size hg.size, fun k hk hne => (hg.block k (Nat.lt_of_lt_of_le hk h.gr.size) (fun e => by have := lt k e.symm; have := h.lt0; omega)).trans (h.gr.block k hk hne)⟩
/-- Behind the store. -/
theorem Dr5.store {w W : World} {g0 b3 : Nat} {A : Option Addr} {n c N : Nat} {vc vr : Value} {s : Nat} {ls : List GL} (h : Dr5 w W g0 b3 A n c N vc vr s ls) (hv : vr.oneCell' = true) : Dr5 w (W.setCell ⟨b3, 1, none⟩ vr) g0 b3 A n c N vr vr s ls := by
  have hs := Nat.lt_trans h.lt0 h.sz
  have hh : w.heap.size ≠ b3 := by have := h.lt0; omega
  refine ⟨cell_offS h.c0 hh, cell_offS h.c1 hh, ?_, ?_, free_offS h.z0 hh, free_offS h.z1 hh, ?_, own_set h.row _ _ (by dsimp only; omega), by have := h.sz; simpa using this, h.lt0, h.g0lt, h.cur.setCell (by dsimp only; have := h.g0lt; have := h.lt0; omega) _, grown_setCell h.gr (by dsimp only; have := h.lt0; omega) _⟩
  · have := h.c2; have := h.c3; go_simp
  · have := h.c2; have := h.c3; go_simp
  · have := h.z2; have := h.c3; go_simp

theorem cellsL_one1 (e : GL) : cellsL [e] = e.cells := by simp [cellsL]
theorem drj_own {W : World} {B m j y : Nat} {t : TypeId} {v : Value} {ls : List GL} {v1 : {x : Nat // x < j}} {v2 : {x : Nat // x < 6}} (hy : y < 5) (h : W.ownsRow B t 4 v m (cellsL ls ++ [.int .i64 (v1.1 : Int), .int .i64 (j : Int), .int .i64 (y : Int), .int .i64 ((y : Int) + (v2.1 : Int))])) :
    ∃ e, DrJ j e ∧ W.ownsRow B t 4 v m (cellsL (ls ++ [e])) :=
  ⟨⟨v1.1, j, y, (y : Int) + (v2.1 : Int)⟩, by have := v1.2; have := v2.2; unfold DrJ; dsimp only; omega, by rw [cellsL_append, cellsL_one1]; exact h⟩
theorem drl_own {W : World} {B m N : Nat} {t : TypeId} {v : Value} {ls : List GL} {v1 v2 : {x : Nat // x < N}} {l k : Int} (hd : DrawnI l k) (h : W.ownsRow B t 4 v m (cellsL ls ++ [.int .i64 (v1.1 : Int), .int .i64 (v2.1 : Int), .int .i64 l, .int .i64 k])) :
    ∃ e, DrL N e ∧ W.ownsRow B t 4 v m (cellsL (ls ++ [e])) :=
  ⟨⟨v1.1, v2.1, l, k⟩, by have := v1.2; have := v2.2; unfold DrL; dsimp only; refine ⟨by omega, by omega, by omega, by omega, hd⟩, by rw [cellsL_append, cellsL_one1]; exact h⟩
theorem wrap5 (y : Nat) (hy : y < 5) (x : {x : Nat // x < 6}) : IntKind.i64.wrap ((y : Int) + (x.1 : Int)) = (y : Int) + (x.1 : Int) := by
  have := x.2
  exact (IntWalk.i64_left _).trans (by unfold wrap64; omega)

set_option maxRecDepth 100000 in
set_option maxHeartbeats 16000000 in
theorem l05Draw_any (g0 : Nat) (A : Option Addr) (n c : Nat) (w : World) (hm : n ≤ 1048576) (hcur : Cur w g0 A n c) (hby : Bytes w g0 A n) :
    Calls Try.prog 41 #[.pointer (some ⟨g0, 0, none⟩)] w fun e w' =>
      ∃ (N : Nat) (ls : List GL) (B : Option Addr) (k cb : Nat), e = .returned (grV N B k cb) ∧ 2 ≤ N ∧ N ≤ 5 ∧ ls.length = k ∧ k ≤ 7 ∧ DrS N ls ∧ w'.ownsRow w.heap.size 76 4 (.slice B k cb) k (cellsL ls) ∧ w.grownBy w' (some g0) := by
  have hg0 := hcur.lt
  have HB := Lib.hid (fun (m : Nat) (W : World) (h0 : 0 < m) (h1 : m ≤ 256) (hc : Cur W g0 A n c) (hg : w.grownBy W (some g0)) => l01Below_small m g0 A n c W h0 h1 hm hc (hby.grown hg))
  have hld := fun (W : World) (hc : Cur W g0 A n c) (hg : w.grownBy W (some g0)) => l02Draw_any g0 A n c W hm hc (hby.grown hg)
  unfold ivV at hld
  have HLD := Lib.hid hld
  clear hld
  obtain ⟨i0, hi, hz0, hz1, hz2⟩ := info_parts Try.info76
  have HC := Lib.hid hcur
  clear hcur hby
  go_enter Try.func41, Try.ntmps41
  go_wp2_with fail
  have hb4 := HB.out 4
  rw [show ((4 : Nat) : Int) = 4 from rfl] at hb4
  have HB4 := Lib.hid hb4
  clear hb4
  refine (HB4.out _ (by decide) (by decide) (HC.out.alloc _) (World.grownBy_alloc _ _ _)).mono ?_
  rintro e w1 ⟨x, rfl, hx, hc1, hg1⟩
  obtain ⟨N, hNx⟩ : ∃ N, N = 2 + x := ⟨_, rfl⟩
  have HN := Lib.hid (show 2 ≤ N ∧ N ≤ 5 from by omega)
  have hxN : (2 : Int) + (x : Int) = (N : Int) := by omega
  clear hNx
  have ng : (some g0 : Option Nat) ≠ some w.heap.size := fun e => by injection e with e; omega
  have a0 := grown_cellS hg1 (b := w.heap.size) (o := 0) (v := .int .i64 0) (by go_simp) ng
  have a1 := grown_cellS hg1 (b := w.heap.size) (o := 1) (v := .slice none 0 0) (by go_simp) ng
  have f0 := grown_freeD hg1 (b := w.heap.size) (o := 0) (by simp) (by go_simp) ng
  have f1 := grown_freeD hg1 (b := w.heap.size) (o := 1) (by simp) (by go_simp) ng
  have s1 : w.heap.size < w1.heap.size := Nat.lt_of_lt_of_le (by simp) hg1.size
  have G1 : w.grownBy w1 (some g0) := grown_trans (World.grownBy_alloc _ _ _) hg1
  obtain ⟨b3, hb3⟩ : ∃ b, b = w1.heap.size := ⟨_, rfl⟩
  obtain ⟨w2, hw2⟩ : ∃ W, W = w1.alloc (.cells #[.int .i64 N, .slice none 0 0] 25) := ⟨_, rfl⟩
  have ba : Below w1.heap.size w1 w2 := by rw [hw2]; exact (Below.refl _ _).alloc (Nat.le_refl _) _
  have D2 : Dr5 w w2 g0 b3 A n c N (.slice none 0 0) (.slice none 0 0) 0 [] :=
    ⟨(ba.cell (p := ⟨w.heap.size, 0, none⟩) (by dsimp only; omega)).trans a0, (ba.cell (p := ⟨w.heap.size, 1, none⟩) (by dsimp only; omega)).trans a1, by rw [hw2, hb3]; go_simp, by rw [hw2, hb3]; go_simp, (ba.frozen (p := ⟨w.heap.size, 0, none⟩) (by dsimp only; omega)).trans f0, (ba.frozen (p := ⟨w.heap.size, 1, none⟩) (by dsimp only; omega)).trans f1, by rw [hw2, hb3]; go_simp, World.ownsRow_nil _ _ _ _, by rw [hw2, hb3]; simp, by omega, by omega, by rw [hw2]; exact hc1.alloc _, by rw [hw2]; exact grown_alloc G1 _⟩
  go_upto_region 2 with (fail)
  rw [← hw2, ← hb3]
  have HD2 := Lib.hid D2
  clear hw2 hb3 ba a0 a1 f0 f1 s1 G1 D2 hc1 hg1 hxN ng hx
  have hN2 := HN.out
  obtain ⟨k0, k1, k2, k3, h0, h1, h2, q0, q1, nx0, nx1, ny0, ny1⟩ := HD2.out.facts
  go_wp2_with fail
  go_loopw [4] (fun ii wr => ∃ (j s : Nat) (ls : List GL) (A2 : Option Addr) (d2 : Nat), ii = .int .i64 j ∧ j = s + 1 ∧ j ≤ N ∧ DrI s ls ∧ Dr5 w wr g0 b3 A n c N (.slice A2 s d2) (.slice A2 s d2) s ls) (fun ii _ => N - (intOf ii).toNat)
  case atStart => exact ⟨1, 0, [], none, 0, rfl, rfl, by omega, ⟨rfl, fun i h => by simp at h⟩, HD2.out⟩
  case round =>
    clear k0 k1 k2 k3 h0 h1 h2 q0 q1 nx0 nx1 ny0 ny1
    obtain ⟨j, s, ls, A2, d2, rfl, hjs, hjN, hdi, hd⟩ := hrel
    have HDI := Lib.hid hdi
    have HD := Lib.hid hd
    have HJS := Lib.hid hjs
    have hj1 : 1 ≤ j := by omega
    have hs8 : s ≤ 8 := by omega
    clear hdi hd hjs
    obtain ⟨k0, k1, k2, k3, h0, h1, h2, q0, q1, nx0, nx1, ny0, ny1⟩ := HD.out.facts
    by_cases hlt : j < N
    · have hb5 := HB.out 5
      rw [show ((5 : Nat) : Int) = 5 from rfl] at hb5
      have HB5 := Lib.hid hb5
      have hb6 := fun W hc hg => (HB.out 6 W (by decide) (by decide) hc hg).mono (R' := fun e w' => ∃ v : {x : Nat // x < 6}, e = .returned (.int .i64 (v.1 : Int)) ∧ Cur w' g0 A n c ∧ W.grownBy w' (some g0)) (fun e w' ⟨x, h1, h2, h3, h4⟩ => ⟨⟨x, h2⟩, h1, h3, h4⟩)
      rw [show ((6 : Nat) : Int) = 6 from rfl] at hb6
      have HB6 := Lib.hid hb6
      have HBJ := Lib.hid (fun W hc hg => (HB.out j W hj1 (by omega) hc hg).mono (R' := fun e w' => ∃ v : {x : Nat // x < j}, e = .returned (.int .i64 (v.1 : Int)) ∧ Cur w' g0 A n c ∧ W.grownBy w' (some g0)) (fun e w' ⟨x, h1, h2, h3, h4⟩ => ⟨⟨x, h2⟩, h1, h3, h4⟩))
      clear hb5 hb6
      go_wp2_with fail
      refine (HB5.out _ (by decide) (by decide) HD.out.cur HD.out.gr).mono ?_
      rintro e w3 ⟨y, rfl, hy, hc3, hg3⟩
      have D3 := Lib.hid (HD.out.call hc3 hg3)
      clear hc3 hg3 k0 k1 k2 k3 h0 h1 h2 q0 q1 nx0 nx1 ny0 ny1
      obtain ⟨k0, k1, k2, k3, h0, h1, h2, q0, q1, nx0, nx1, ny0, ny1⟩ := D3.out.facts
      go_wp2_with fail
      go_region_law (first | (refine step_append_lies _ rfl _ _ 23 rfl (b3 + 1) 76 i0 (.agg #[.int .i64 0, .int .i64 0, .int .i64 0, .int .i64 0]) 4 32 Try.underlying23 hi hz0 hz1 hz2 rfl (by decide) _ _ _ rfl (D5.out.row.alloc _) ⟨_, 0, none⟩ 1 1 _ rfl rfl (World.news_of_block (heap_made _ _ _ (by first | rfl | omega | (simp; done) | (simp; omega)))) (one_c4 _ _ _ _) (by decide) (by unfold maxLen; omega) (by omega) (by first | omega | (simp; done) | (simp; omega)) _ rfl ?_; intro g6 cap w6 ho6 hg6 hat6 hl6; (obtain ⟨e1, he1, ho7⟩ := drj_own hy ho6); have D6 := Lib.hid ((D5.out.alloc _).grow ho7 hg6); have HE1 := Lib.hid he1; (obtain ⟨k0, k1, k2, k3, h0, h1, h2, q0, q1, nx0, nx1, ny0, ny1⟩ := D6.out.facts); clear ho6 hg6 hat6 hl6 ho7 he1) | (go_simp; go_at_call_of 55 (Value.int .i64 j); refine (HBJ.out _ (by first | exact D3.out.cur) (by first | exact D3.out.gr | exact grown_drewS D3.out.gr)).mono ?_; rintro e w4 ⟨xa, rfl, hc4, hg4⟩; have D4 := Lib.hid (Dr5.call (W := _) (by first | exact D3.out | exact D3.out.drew) hc4 hg4); (obtain ⟨k0, k1, k2, k3, h0, h1, h2, q0, q1, nx0, nx1, ny0, ny1⟩ := D4.out.facts); clear hc4 hg4) | (go_simp; go_at_call_of 55 (Value.int .i64 6); refine (HB6.out _ (by first | exact D4.out.cur) (by first | exact D4.out.gr | exact grown_drewS D4.out.gr)).mono ?_; rintro e w4 ⟨xb, rfl, hc4, hg4⟩; have nw := wrap5 y hy xb; have D5 := Lib.hid (Dr5.call (W := _) (by first | exact D4.out | exact D4.out.drew) hc4 hg4); (obtain ⟨k0, k1, k2, k3, h0, h1, h2, q0, q1, nx0, nx1, ny0, ny1⟩ := D5.out.facts); clear hc4 hg4))
      all_goals
        go_wp2_with fail
        go_roundw
        case rel =>
          have := HJS.out
          exact ⟨j + 1, s + 1, ls ++ [e1], some ⟨g6, 0, none⟩, cap, by go_num, by omega, by omega, HDI.out.snoc (by rw [← HJS.out]; exact HE1.out), D6.out.store rfl⟩
        case measure => simp [intOf]; omega
    · have hjN2 : j = N := by omega
      have HS0 := Lib.hid (show DrS N ls from DrI.all (by have := HJS.out; rw [show N - 1 = s from by omega]; exact HDI.out))
      have HL0 := Lib.hid HDI.out.1
      clear hlt
      have hlt : ¬ ((j : Int) < (N : Int)) := by omega
      go_wp2_with fail
      refine (HB4.out _ (by decide) (by decide) HD.out.cur HD.out.gr).mono ?_
      rintro e w3 ⟨y, rfl, hy, hc3, hg3⟩
      have D3 := Lib.hid (HD.out.call hc3 hg3)
      clear hc3 hg3 k0 k1 k2 k3 h0 h1 h2 q0 q1 nx0 nx1 ny0 ny1 HDI HD
      obtain ⟨k0, k1, k2, k3, h0, h1, h2, q0, q1, nx0, nx1, ny0, ny1⟩ := D3.out.facts
      go_wp2_with fail
      go_loopw [6] (fun ii wr => ∃ (q r : Nat) (ms : List GL) (A3 : Option Addr) (d3 : Nat), ii = .int .i64 q ∧ q + r ≤ 7 ∧ DrS N ms ∧ ms.length = r ∧ Dr5 w wr g0 b3 A n c N (.slice A3 r d3) (.slice A3 r d3) r ms) (fun ii _ => (intOf ii).toNat)
      case atStart => exact ⟨y, s, ls, A2, d2, rfl, by have := HJS.out; omega, HS0.out, HL0.out, D3.out⟩
      case round =>
        clear k0 k1 k2 k3 h0 h1 h2 q0 q1 nx0 nx1 ny0 ny1
        obtain ⟨q, r, ms, A3, d3, rfl, hqr, hds, hlr, hd⟩ := hrel
        have HDS := Lib.hid hds
        have HD := Lib.hid hd
        have HLR := Lib.hid hlr
        clear hds hd hlr D3
        obtain ⟨k0, k1, k2, k3, h0, h1, h2, q0, q1, nx0, nx1, ny0, ny1⟩ := HD.out.facts
        by_cases hq : 0 < q
        · have HBN := Lib.hid (fun W hc hg => (HB.out N W (by omega) (by omega) hc hg).mono (R' := fun e w' => ∃ v : {x : Nat // x < N}, e = .returned (.int .i64 (v.1 : Int)) ∧ Cur w' g0 A n c ∧ W.grownBy w' (some g0)) (fun e w' ⟨x, h1, h2, h3, h4⟩ => ⟨⟨x, h2⟩, h1, h3, h4⟩))
          go_wp2_with fail
          go_region_law (first | (refine step_append_lies _ rfl _ _ 23 rfl (b3 + 1) 76 i0 (.agg #[.int .i64 0, .int .i64 0, .int .i64 0, .int .i64 0]) 4 32 Try.underlying23 hi hz0 hz1 hz2 rfl (by decide) _ _ _ rfl (D9.out.row.alloc _) ⟨_, 0, none⟩ 1 1 _ rfl rfl (World.news_of_block (heap_made _ _ _ (by first | rfl | omega | (simp; done) | (simp; omega)))) (one_c4 _ _ _ _) (by decide) (by unfold maxLen; omega) (by omega) (by first | omega | (simp; done) | (simp; omega)) _ rfl ?_; intro g6 cap w6 ho6 hg6 hat6 hl6; (obtain ⟨e1, he1, ho7⟩ := drl_own hdr ho6); have D6 := Lib.hid ((D9.out.alloc _).grow ho7 hg6); have HE1 := Lib.hid he1; (obtain ⟨k0, k1, k2, k3, h0, h1, h2, q0, q1, nx0, nx1, ny0, ny1⟩ := D6.out.facts); clear ho6 hg6 hat6 hl6 ho7 he1) | (go_simp; go_at_call_of 55 (Value.int .i64 N); refine (HBN.out _ (by first | exact D8.out.cur | exact HD.out.cur) (by first | exact D8.out.gr | exact grown_drewS D8.out.gr | exact HD.out.gr | exact grown_drewS HD.out.gr)).mono ?_; rintro e w4 ⟨xa, rfl, hc4, hg4⟩; have D8 := Lib.hid (Dr5.call (W := _) (by first | exact D8.out | exact D8.out.drew | exact HD.out | exact HD.out.drew) hc4 hg4); (obtain ⟨k0, k1, k2, k3, h0, h1, h2, q0, q1, nx0, nx1, ny0, ny1⟩ := D8.out.facts); clear hc4 hg4) | (go_simp; go_at_call 73; refine (HLD.out _ (by first | exact D8.out.cur) (by first | exact D8.out.gr | exact grown_drewS D8.out.gr)).mono ?_; rintro e w4 ⟨lo, hi4, rfl, hdr, hc4, hg4⟩; have D9 := Lib.hid (Dr5.call (W := _) (by first | exact D8.out | exact D8.out.drew) hc4 hg4); (obtain ⟨k0, k1, k2, k3, h0, h1, h2, q0, q1, nx0, nx1, ny0, ny1⟩ := D9.out.facts); clear hc4 hg4))
          all_goals
            go_wp2_with fail
            go_roundw
            case rel =>
              exact ⟨q - 1, r + 1, ms ++ [e1], some ⟨g6, 0, none⟩, cap, by go_num, by omega, HDS.out.snoc HE1.out, by rw [List.length_append, HLR.out]; rfl, D6.out.store rfl⟩
            case measure => simp [intOf]; omega
        · have hq0 : q = 0 := by omega
          subst hq0
          have hlt0 := HD.out.lt0
          go_wp2_with fail
          refine bodyPost_ret (v := grV N A3 r d3) (by first | (simp [results, Try.results41, go_sem, grV]; done) | simp [*, results, Try.results41, go_sem, grV]) rfl ⟨N, ms, A3, r, d3, rfl, hN2.1, hN2.2, HLR.out, by omega, HDS.out, ?_, ?_⟩
          · refine own_base (B := b3 + 1) ?_ (by omega)
            repeat (refine own_set ?_ _ _ (by dsimp only; omega))
            exact HD.out.row
          · repeat (refine grown_setCell ?_ (by dsimp only; omega) _)
            exact HD.out.gr

end Go.Proofs.Yteppmlepbfjnpaa

