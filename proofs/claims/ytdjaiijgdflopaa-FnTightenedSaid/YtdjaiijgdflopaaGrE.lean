/-
  WALKS over slices of edges: eqEdgeS; toGraph, eqGraph.
-/
import Derived.Test.YtdjaiijgdflopaaGrS
namespace Go.Proofs.Ytdjaiijgdflopaa
open Go.RowKit
set_option linter.unusedVariables false
set_option linter.unusedSimpArgs false

theorem setCell_grown (w : World) (p : Addr) (u : Value) : w.grownBy (w.setCell p u) (some p.block) :=
  ⟨rfl, rfl, rfl, by simp, fun k _ hk => heap_setCell_other w p k u (fun e => hk (by simp [e]))⟩
theorem own_base {w : World} {B B' e n s : Nat} {v : Value} {xs : List Value} (h : w.ownsRow B e s v n xs) (hb : B' ≤ B) : w.ownsRow B' e s v n xs := by
  refine ⟨h.1, ?_⟩
  rcases h.2 with h2 | ⟨g, cap, cur, h1, h2, h3⟩
  · exact .inl h2
  · exact .inr ⟨g, cap, cur, h1, by omega, h3⟩
theorem own_set {w : World} {B e n s : Nat} {v : Value} {xs : List Value} (h : w.ownsRow B e s v n xs) (p : Addr) (u : Value) (hp : p.block < B) : (w.setCell p u).ownsRow B e s v n xs :=
  h.kept (setCell_grown w p u) (by
    cases hb : v.ownBlock with
    | none => exact .inl rfl
    | some g => exact .inr (fun e => by have := (h.lt g hb).1; injection e with e; omega))

set_option maxRecDepth 100000 in
set_option maxHeartbeats 1000000 in
theorem toGraph_any (n : Int) (es : List GE) (A : Option Addr) (k c : Nat) (w : World) (hn : es.length = k) (hm : k ≤ 1048576) (hr : EdgeAt w A es) :
    Calls Try.prog 34 #[grV n A k c] w fun e w' => ∃ A' c', e = .returned (grV n A' k c') ∧ w'.ownsRow w.heap.size 35 3 (.slice A' k c') k (cellsE es) ∧ Below w.heap.size w w' := by
  unfold grV
  go_enter Try.func34, Try.ntmps34
  go_wp2_with (go_at_call 80; refine (toEdgeS_any es A k c _ hn hm (hr.below (by repeat (first | exact Below.refl _ _ | refine below_step (by assumption) (by first | omega | (simp; done) | (simp; omega)) ?_ | refine below_drewN ?_ _ | refine Below.drew ?_ | refine Below.setCell ?_ (by first | omega | (simp; done) | (simp; omega)) _ | refine Below.alloc ?_ (by first | omega | (simp; done) | (simp; omega)) _)))).mono ?_; rintro x w2 ⟨v, rfl, h2, b2⟩; (obtain ⟨A', c', rfl, hl', _⟩ := ownE_form h2); have hc2 := fun x hx => b2.cell (p := x) hx; have hf2 := fun x hx => b2.frozen (p := x) hx; have s2 := b2.size; simp at s2 hc2 hf2; have k0 : w2.cell? ⟨w.heap.size + 1 + 1, 0, none⟩ = some (.int .i64 n) := (b2.cell (p := ⟨w.heap.size + 1 + 1, 0, none⟩) (by first | omega | (simp; done) | (simp; omega))).trans (by go_simp); have k1 : w2.cell? ⟨w.heap.size + 1 + 1, 1, none⟩ = some (.slice none 0 0) := (b2.cell (p := ⟨w.heap.size + 1 + 1, 1, none⟩) (by first | omega | (simp; done) | (simp; omega))).trans (by go_simp); have f0 : w2.frozen? ⟨w.heap.size + 1 + 1, 1, none⟩ = false := (b2.frozen (p := ⟨w.heap.size + 1 + 1, 1, none⟩) (by first | omega | (simp; done) | (simp; omega))).trans (by go_simp); have k2 : w2.cell? ⟨w.heap.size + 1, 0, none⟩ = some (.int .i64 0) := (b2.cell (p := ⟨w.heap.size + 1, 0, none⟩) (by first | omega | (simp; done) | (simp; omega))).trans (by go_simp); have k3 : w2.cell? ⟨w.heap.size + 1, 1, none⟩ = some (.slice none 0 0) := (b2.cell (p := ⟨w.heap.size + 1, 1, none⟩) (by first | omega | (simp; done) | (simp; omega))).trans (by go_simp); have f2 : w2.frozen? ⟨w.heap.size + 1, 0, none⟩ = false := (b2.frozen (p := ⟨w.heap.size + 1, 0, none⟩) (by first | omega | (simp; done) | (simp; omega))).trans (by go_simp); have f3 : w2.frozen? ⟨w.heap.size + 1, 1, none⟩ = false := (b2.frozen (p := ⟨w.heap.size + 1, 1, none⟩) (by first | omega | (simp; done) | (simp; omega))).trans (by go_simp); have H2 := Lib.hid h2; clear h2)
  refine bodyPost_ret (v := .agg #[.int .i64 n, .slice A' k c']) (by simp [results, Try.results34, go_sem, *]) rfl ⟨A', c', rfl, ?_, ?_⟩
  · have h3 := H2.out
    simp at h3
    refine own_base (B := w.heap.size + 1 + 1 + 1) ?_ (by omega)
    repeat (refine own_set ?_ _ _ (by simp))
    exact h3
  · exact (by repeat (first | exact Below.refl _ _ | refine below_step (by assumption) (by first | omega | (simp; done) | (simp; omega)) ?_ | refine below_drewN ?_ _ | refine Below.drew ?_ | refine Below.setCell ?_ (by first | omega | (simp; done) | (simp; omega)) _ | refine Below.alloc ?_ (by first | omega | (simp; done) | (simp; omega)) _))

set_option maxRecDepth 100000 in
set_option maxHeartbeats 1000000 in
theorem eqEdgeS_same (es : List GE) (A B : Option Addr) (n ca cb : Nat) (w : World) (hn : es.length = n) (hm : n ≤ maxLen) (ha : EdgeAt w A es) (hb : EdgeAt w B es) :
    Calls Try.prog 46 #[.slice A n ca, .slice B n cb] w fun e w' => e = .returned (.bool true) ∧ Below w.heap.size w w' := by
  unfold maxLen at hm
  have HA := Lib.hid ha
  have HB := Lib.hid hb
  have HL := Lib.hid hn
  clear ha hb hn
  have hne : ((n : Int) != (n : Int)) = false := by simp
  go_enter Try.func46, Try.ntmps46
  go_wp2
  go_loopw [5] (fun i wr => ∃ k : Nat, k ≤ n ∧ i = .int .i64 k ∧ Below w.heap.size w wr) (fun i _ => n - (intOf i).toNat)
  case atStart => exact ⟨0, Nat.zero_le _, rfl, (by repeat (first | exact Below.refl _ _ | refine below_drewN ?_ _ | refine Below.drew ?_))⟩
  case round =>
    obtain ⟨k, hk, rfl, hbw⟩ := hrel
    by_cases hlt : k < n
    · have hl := HL.out
      obtain ⟨g, o, rfl, hg, hc⟩ := HA.out (by omega)
      obtain ⟨g', o', rfl, hg', hc'⟩ := HB.out (by omega)
      have hc1 := hc k (by omega)
      have hd1 := hc' k (by omega)
      obtain ⟨e, he⟩ : ∃ e, e = es[k]'(by omega) := ⟨_, rfl⟩
      rw [← he] at hc1 hd1
      obtain ⟨c0, c1, c2⟩ := hc1
      obtain ⟨d0, d1, d2⟩ := hd1
      have k0 := (hbw.cell (p := ⟨g, o + k * 3, none⟩) hg).trans c0
      have k1 := (hbw.cell (p := ⟨g, o + k * 3 + 1, none⟩) hg).trans c1
      have k2 := (hbw.cell (p := ⟨g, o + k * 3 + 2, none⟩) hg).trans c2
      have l0 := (hbw.cell (p := ⟨g', o' + k * 3, none⟩) hg').trans d0
      have l1 := (hbw.cell (p := ⟨g', o' + k * 3 + 1, none⟩) hg').trans d1
      have l2 := (hbw.cell (p := ⟨g', o' + k * 3 + 2, none⟩) hg').trans d2
      have hq := eqEdge_any e
      unfold GE.val at hq
      have HQ := Lib.hid hq
      clear hc hc' c0 c1 c2 d0 d1 d2 he hl hq
      go_wp2
      go_region_with (go_at_call 86; refine (HQ.out _).mono ?_; rintro x w2 ⟨rfl, b2⟩)
      all_goals
        have hbw2 : Below w.heap.size w w2 := hbw.drew.trans (Below.mono b2 hbw.size)
        go_wp2
        go_roundw
        case rel => exact ⟨k + 1, by omega, by go_num, hbw2⟩
        case measure => simp [intOf]; omega
    · go_wp2
      go_ret
      exact ⟨rfl, hbw⟩

end Go.Proofs.Ytdjaiijgdflopaa
