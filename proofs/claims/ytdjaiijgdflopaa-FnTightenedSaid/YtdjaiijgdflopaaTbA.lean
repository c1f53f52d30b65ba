/-
  TABLES: a table that comes in; WALKS of the laws' helpers over tables: szIntS, szTable, toTable, eqTable, markTable, heldTable.
-/
import Derived.Test.YtdjaiijgdflopaaGrM
import Derived.Test.YtdjaiijgdflopaaMark
import Derived.Lib.SmallJoins
import Derived.Deep.Slices
namespace Go.Proofs.Ytdjaiijgdflopaa
open Go.RowKit Go.ChangeShapes Go.WideShapes Go.ChangeAt Go.WideMaps Go.WideElems
set_option linter.unusedVariables false
set_option linter.unusedSimpArgs false

theorem cells_table : Try.prog.cellsOf 49 = 2 := by kernel_rfl

set_option maxRecDepth 100000 in
/-- A table that comes in. -/
theorem open_table {H : Type} {enc : TypeId × Value → H} {W : World} {r : Reach} {b : Nat} {v : Value} {d : DataW H} {p : List MemPlace}
    (hv : Value.okWide Try.prog W r b 49 v) (h : DataW.Trod enc Try.prog W 0 (fun _ => true) true 49 v d p) :
    ∃ (n : Int) (A : Option Addr) (k c : Nat) (zs : List Int), v = grV n A k c ∧ (Lit.int .i64 n).wf = true ∧ zs.length = k ∧ k ≤ maxLen ∧ (∀ y ∈ zs, (Lit.int .i64 y).wf = true) ∧ RowAt W A (zs.map intV) := by
  obtain ⟨c0, c1, y0, y1, m, rfl, rfl, rfl, hy0, hy1⟩ := Go.Joins.open_agg2 Try.underlying49 (by kernel_rfl) cells_table hv h
  obtain ⟨a, e0, hx0, wa⟩ := DataW.trod_int Try.underlying3 hy0
  simp at e0
  subst e0
  have hsl : ∃ A k c, c1 = .slice A k c := by
    rcases Deep.open_slice Try.underlying27 hy1 with ⟨hcs, _⟩ | ⟨a, len, cap, m, k, D, Pl, hcs, _⟩
    · simp at hcs; exact ⟨_, _, _, hcs⟩
    · simp at hcs; exact ⟨_, _, _, hcs⟩
  obtain ⟨A, k, c, rfl⟩ := hsl
  obtain ⟨zs, h1, h2, h3, h4⟩ := ints_in (A := A) (n := k) (c := c) Try.underlying27 Try.underlying3 cells_int1 (by simpa [Value.cells] using hy1)
  exact ⟨a, A, k, c, zs, rfl, wa, h1, h2, h3, h4⟩

set_option maxRecDepth 100000 in
theorem szIntS_any (A : Option Addr) (n c : Nat) (w : World) (hm : n ≤ maxLen) :
    Calls Try.prog 71 #[.slice A n c, .int .i64 1048576] w fun x w' => x = .returned (.int .i64 (if n ≤ 1048576 then 1048576 - n else -1)) ∧ w' = w := by
  unfold maxLen at hm
  go_enter Try.func71, Try.ntmps71
  by_cases h : n ≤ 1048576
  · have hlt : ¬ ((1048576 : Int) - n < 0) := by omega
    rw [if_pos h]
    go_wp2
    go_ret
    exact ⟨rfl, rfl⟩
  · have hlt : ((1048576 : Int) - n < 0) := by omega
    rw [if_neg h]
    go_wp2
    go_ret
    exact ⟨rfl, rfl⟩

set_option maxRecDepth 100000 in
theorem szTable_any (n : Int) (A : Option Addr) (k c : Nat) (w : World) (hm : k ≤ maxLen) :
    Calls Try.prog 27 #[grV n A k c, .int .i64 1048576] w fun x w' => x = .returned (.int .i64 (if k ≤ 1048576 then 1048576 - k else -1)) ∧ Below w.heap.size w w' := by
  unfold grV
  obtain ⟨r, hr⟩ : ∃ r : Int, r = if k ≤ 1048576 then (1048576 : Int) - k else -1 := ⟨_, rfl⟩
  have hc := szIntS_any A k c
  rw [← hr] at hc ⊢
  have h0 : r = -1 ∨ 0 ≤ r := by split at hr <;> omega
  clear hr
  go_enter Try.func27, Try.ntmps27
  rcases h0 with rfl | h0
  · go_wp2_with (go_at_call 71; refine (hc _ hm).mono ?_; rintro e w1 ⟨rfl, rfl⟩)
    go_ret
    exact ⟨rfl, (Below.refl _ _).alloc (Nat.le_refl _) _⟩
  · go_wp2_with (go_at_call 71; refine (hc _ hm).mono ?_; rintro e w1 ⟨rfl, rfl⟩)
    go_ret
    exact ⟨rfl, (Below.refl _ _).alloc (Nat.le_refl _) _⟩

set_option maxRecDepth 100000 in
set_option maxHeartbeats 1000000 in
theorem toTable_any (n : Int) (zs : List Int) (A : Option Addr) (k c : Nat) (w : World) (hn : zs.length = k) (hm : k ≤ 1048576) (hr : RowAt w A (zs.map intV)) :
    Calls Try.prog 29 #[grV n A k c] w fun e w' => ∃ A' c', e = .returned (grV n A' k c') ∧ w'.ownsRow w.heap.size 3 1 (.slice A' k c') k (zs.map intV) ∧ Below w.heap.size w w' := by
  unfold grV
  have HT := Lib.hid (fun W h => toIntS_any zs A k c W hn (by omega) h)
  have HR := Lib.hid hr
  clear hr hn
  go_enter Try.func29, Try.ntmps29
  go_wp2_with fail
  refine (HT.out _ (HR.out.below (by repeat (first | exact Below.refl _ _ | refine below_step (by assumption) (by first | omega | (simp; done) | (simp; omega)) ?_ | refine below_drewN ?_ _ | refine Below.drew ?_ | refine Below.setCell ?_ (by first | omega | (simp; done) | (simp; omega)) _ | refine Below.alloc ?_ (by first | omega | (simp; done) | (simp; omega)) _)))).mono ?_
  rintro x w2 ⟨v, rfl, h2, b2⟩
  obtain ⟨A', c', rfl, _, _⟩ := own_form h2
  have s2 := b2.size
  simp at s2
  have k0 : w2.cell? ⟨w.heap.size + 1 + 1, 0, none⟩ = some (.int .i64 n) := (b2.cell (p := ⟨w.heap.size + 1 + 1, 0, none⟩) (by first | omega | (simp; done) | (simp; omega))).trans (by go_simp)
  have k1 : w2.cell? ⟨w.heap.size + 1 + 1, 1, none⟩ = some (.slice none 0 0) := (b2.cell (p := ⟨w.heap.size + 1 + 1, 1, none⟩) (by first | omega | (simp; done) | (simp; omega))).trans (by go_simp)
  have f0 : w2.frozen? ⟨w.heap.size + 1 + 1, 1, none⟩ = false := (b2.frozen (p := ⟨w.heap.size + 1 + 1, 1, none⟩) (by first | omega | (simp; done) | (simp; omega))).trans (by go_simp)
  have k2 : w2.cell? ⟨w.heap.size + 1, 0, none⟩ = some (.int .i64 0) := (b2.cell (p := ⟨w.heap.size + 1, 0, none⟩) (by first | omega | (simp; done) | (simp; omega))).trans (by go_simp)
  have k3 : w2.cell? ⟨w.heap.size + 1, 1, none⟩ = some (.slice none 0 0) := (b2.cell (p := ⟨w.heap.size + 1, 1, none⟩) (by first | omega | (simp; done) | (simp; omega))).trans (by go_simp)
  have f2 : w2.frozen? ⟨w.heap.size + 1, 0, none⟩ = false := (b2.frozen (p := ⟨w.heap.size + 1, 0, none⟩) (by first | omega | (simp; done) | (simp; omega))).trans (by go_simp)
  have f3 : w2.frozen? ⟨w.heap.size + 1, 1, none⟩ = false := (b2.frozen (p := ⟨w.heap.size + 1, 1, none⟩) (by first | omega | (simp; done) | (simp; omega))).trans (by go_simp)
  have B2 : Below w.heap.size w w2 := (by repeat (first | exact Below.refl _ _ | refine below_step (by assumption) (by first | omega | (simp; done) | (simp; omega)) ?_ | refine below_drewN ?_ _ | refine Below.drew ?_ | refine Below.setCell ?_ (by first | omega | (simp; done) | (simp; omega)) _ | refine Below.alloc ?_ (by first | omega | (simp; done) | (simp; omega)) _))
  have H2 := Lib.hid h2
  clear h2 b2
  go_wp2_with fail
  refine bodyPost_ret (v := .agg #[.int .i64 n, .slice A' k c']) (by simp [results, Try.results29, go_sem, *]) rfl ⟨A', c', rfl, ?_, ?_⟩
  · have h3 := H2.out
    simp at h3
    refine own_base (B := w.heap.size + 1 + 1 + 1) ?_ (by omega)
    repeat (refine own_set ?_ _ _ (by simp))
    exact h3
  · exact (by repeat (first | exact Below.refl _ _ | refine below_step (by assumption) (by first | omega | (simp; done) | (simp; omega)) ?_ | refine below_drewN ?_ _ | refine Below.drew ?_ | refine Below.setCell ?_ (by first | omega | (simp; done) | (simp; omega)) _ | refine Below.alloc ?_ (by first | omega | (simp; done) | (simp; omega)) _))

set_option maxRecDepth 100000 in
set_option maxHeartbeats 1000000 in
theorem eqTable_same (n : Int) (zs : List Int) (A B : Option Addr) (k ca cb : Nat) (w : World) (hn : zs.length = k) (hm : k ≤ maxLen) (ha : RowAt w A (zs.map intV)) (hb : RowAt w B (zs.map intV)) :
    Calls Try.prog 30 #[grV n A k ca, grV n B k cb] w fun e w' => e = .returned (.bool true) ∧ Below w.heap.size w w' := by
  unfold grV
  have hne : ((n : Int) != n) = false := by simp
  have HT := Lib.hid (fun W h h' => eqIntS_same zs A B k ca cb W hn hm h h')
  have HA := Lib.hid ha
  have HB := Lib.hid hb
  clear ha hb hn
  go_enter Try.func30, Try.ntmps30
  go_wp2_with fail
  refine (HT.out _ (HA.out.below (by repeat (first | exact Below.refl _ _ | refine below_step (by assumption) (by first | omega | (simp; done) | (simp; omega)) ?_ | refine below_drewN ?_ _ | refine Below.drew ?_ | refine Below.setCell ?_ (by first | omega | (simp; done) | (simp; omega)) _ | refine Below.alloc ?_ (by first | omega | (simp; done) | (simp; omega)) _))) (HB.out.below (by repeat (first | exact Below.refl _ _ | refine below_step (by assumption) (by first | omega | (simp; done) | (simp; omega)) ?_ | refine below_drewN ?_ _ | refine Below.drew ?_ | refine Below.setCell ?_ (by first | omega | (simp; done) | (simp; omega)) _ | refine Below.alloc ?_ (by first | omega | (simp; done) | (simp; omega)) _)))).mono ?_
  rintro x w2 ⟨rfl, q, rfl⟩
  go_wp2_with fail
  go_ret
  exact ⟨rfl, (by repeat (first | exact Below.refl _ _ | refine below_step (by assumption) (by first | omega | (simp; done) | (simp; omega)) ?_ | refine below_drewN ?_ _ | refine Below.drew ?_ | refine Below.setCell ?_ (by first | omega | (simp; done) | (simp; omega)) _ | refine Below.alloc ?_ (by first | omega | (simp; done) | (simp; omega)) _))⟩

set_option maxRecDepth 100000 in
set_option maxHeartbeats 1000000 in
theorem markTable_any (N : Int) (A : Option Addr) (n c B k : Nat) (xs : List Value) (w : World) (hk : 0 < k) (hn : k + n ≤ 1099511627776) (hown : w.ownsRow B 3 1 (.slice A n c) n xs) :
    Calls Try.prog 37 #[grV N A n c, .int .i64 k] w fun e w' => e = .returned (.int .i64 ((k : Int) + n)) ∧ w'.ownsRow B 3 1 (.slice A n c) n (imarks k n) ∧ (w.alloc (.cells #[.int .i64 N, .slice A n c] 29)).grownBy w' (Value.slice A n c).ownBlock := by
  unfold grV
  have HM := Lib.hid (fun W h => markIntS_any A n c B k xs W hk hn h)
  have HO := Lib.hid (hown.alloc (.cells #[.int .i64 N, .slice A n c] 29))
  clear hown
  go_enter Try.func37, Try.ntmps37
  go_wp2_with (go_at_call 81; refine (HM.out _ HO.out).mono ?_; rintro x w1 ⟨rfl, ho, hg⟩)
  go_ret
  exact ⟨rfl, ho, hg⟩

set_option maxRecDepth 100000 in
set_option maxHeartbeats 1000000 in
theorem heldTable_any (N : Int) (A : Option Addr) (n c k : Nat) (w : World) (hk : 0 < k) (hn : k + n ≤ 1099511627776) (hrow : RowAt w A (imarks k n)) :
    Calls Try.prog 38 #[grV N A n c, .int .i64 k] w fun e w' => e = .returned (.int .i64 ((k : Int) + n)) ∧ Below w.heap.size w w' := by
  unfold grV
  have HM := Lib.hid (fun W h => heldIntS_any A n c k W hk hn h)
  have HO := Lib.hid hrow
  have hlt : ¬ ((k : Int) + n < 0) := by omega
  clear hrow
  go_enter Try.func38, Try.ntmps38
  go_wp2_with (go_at_call 82; refine (HM.out _ (HO.out.below (by repeat (first | exact Below.refl _ _ | refine below_step (by assumption) (by first | omega | (simp; done) | (simp; omega)) ?_ | refine below_drewN ?_ _ | refine Below.drew ?_ | refine Below.setCell ?_ (by first | omega | (simp; done) | (simp; omega)) _ | refine Below.alloc ?_ (by first | omega | (simp; done) | (simp; omega)) _)))).mono ?_; rintro x w1 ⟨rfl, rfl⟩)
  go_ret
  exact ⟨rfl, (by repeat (first | exact Below.refl _ _ | refine below_step (by assumption) (by first | omega | (simp; done) | (simp; omega)) ?_ | refine below_drewN ?_ _ | refine Below.drew ?_ | refine Below.setCell ?_ (by first | omega | (simp; done) | (simp; omega)) _ | refine Below.alloc ?_ (by first | omega | (simp; done) | (simp; omega)) _))⟩

end Go.Proofs.Ytdjaiijgdflopaa
