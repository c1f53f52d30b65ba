/-
  WALKS over slices of edges: toEdgeS, eqEdgeS; toGraph, eqGraph.
-/
import Derived.Test.YtdjaiijgdflopaaGrT
import Derived.Deep.RegionHeld3
namespace Go.Proofs.Ytdjaiijgdflopaa
open Go.RowKit
set_option linter.unusedVariables false
set_option linter.unusedSimpArgs false

theorem put3 (xs : List Value) (k : Nat) (es : List GE) (e : GE) (hl : k * 3 + 3 ≤ xs.length) (hk : xs.take (k * 3) = cellsE (es.take k)) (he : es[k]? = some e) :
    (((xs.set (k * 3) (.int .i64 e.u)).set (k * 3 + 1) (.int .i64 e.v)).set (k * 3 + 2) (.int .i64 e.c)).take ((k + 1) * 3) = cellsE (es.take (k + 1)) := by
  have hes : es.take (k + 1) = es.take k ++ [e] := by
    rw [List.take_add_one, he]; rfl
  have hx : xs = xs.take (k * 3) ++ xs.drop (k * 3) := (List.take_append_drop _ _).symm
  obtain ⟨a, b, c, r, hr⟩ : ∃ a b c r, xs.drop (k * 3) = a :: b :: c :: r := by
    have hd : (xs.drop (k * 3)).length = xs.length - k * 3 := List.length_drop ..
    match h : xs.drop (k * 3) with
    | [] => rw [h] at hd; simp at hd; omega
    | [_] => rw [h] at hd; simp at hd; omega
    | [_, _] => rw [h] at hd; simp at hd; omega
    | a :: b :: c :: r => exact ⟨a, b, c, r, rfl⟩
  have hp : (xs.take (k * 3)).length = k * 3 := by simp; omega
  rw [hx, hr]
  rw [List.set_append_right _ _ (by omega), List.set_append_right _ _ (by omega), List.set_append_right _ _ (by omega), hp]
  rw [show k * 3 - k * 3 = 0 from by omega, show k * 3 + 1 - k * 3 = 1 from by omega, show k * 3 + 2 - k * 3 = 2 from by omega]
  rw [List.take_append, hp, List.take_of_length_le (by omega), show (k + 1) * 3 - k * 3 = 3 from by omega, hes, cellsE_append, hk]
  rfl

theorem set3_length (xs : List Value) (i j k : Nat) (a b c : Value) : (((xs.set i a).set j b).set k c).length = xs.length := by simp

set_option maxRecDepth 100000 in
set_option maxHeartbeats 1000000 in
theorem toEdgeS_any (es : List GE) (A : Option Addr) (n c : Nat) (w : World) (hn : es.length = n) (hm : n ≤ 1048576) (hr : EdgeAt w A es) :
    Calls Try.prog 80 #[.slice A n c] w fun e w' => ∃ v, e = .returned v ∧ w'.ownsRow w.heap.size 35 3 v n (cellsE es) ∧ Below w.heap.size w w' := by
  obtain ⟨i0, hi, hz0, hz1, hz2⟩ := info_parts Try.info35
  have hb2 : i0.bytes * n ≤ 281474976710656 := by rw [hz2]; omega
  have HR := Lib.hid hr
  have HL := Lib.hid hn
  clear hr hn
  go_enter Try.func80, Try.ntmps80
  go_wp2_with (refine wpList_make_full _ rfl _ _ 23 rfl w.heap.size 35 i0 (.agg #[.int .i64 0, .int .i64 0, .int .i64 0]) 3 Try.underlying23 hi hz0 hz1 .i64 .i64 _ _ n rfl rfl rfl rfl hb2 (by unfold maxLen; omega) (Nat.le_refl _) ?_)
  intro w1 h1 g1
  have b1 : Below w.heap.size w w1 := (Below.refl _ w).grown g1 (Nat.le_refl _) (fun k hk => by cases hk)
  clear g1
  have h1b : ∃ xs, w1.ownsRow w.heap.size 35 3 (.slice (some ⟨w.heap.size, 0, none⟩) n n) n xs ∧ xs.take (0 * 3) = cellsE (es.take 0) := ⟨_, h1, by simp [cellsE]⟩
  clear h1
  go_wp2
  go_loopw [4] (fun i wr => ∃ k : Nat, k ≤ n ∧ i = .int .i64 k ∧ (∃ xs, wr.ownsRow w.heap.size 35 3 (.slice (some ⟨w.heap.size, 0, none⟩) n n) n xs ∧ xs.take (k * 3) = cellsE (es.take k)) ∧ Below w.heap.size w wr) (fun i _ => n - (intOf i).toNat)
  case atStart => exact ⟨0, Nat.zero_le _, rfl, h1b, b1⟩
  case round =>
    obtain ⟨k, hk, rfl, ⟨xs, hown, htk⟩, hbw⟩ := hrel
    have HK := Lib.hid htk
    clear htk
    by_cases hlt : k < n
    · have hl := HL.out
      obtain ⟨g, o, rfl, hg, hc⟩ := HR.out (by omega)
      have hc1 := hc k (by omega)
      obtain ⟨e, he⟩ : ∃ e, e = es[k]'(by omega) := ⟨_, rfl⟩
      rw [← he] at hc1
      have HE : Hid (es[k]? = some e) := Lib.hid (by rw [he]; exact List.getElem?_eq_getElem _)
      obtain ⟨c0, c1, c2⟩ := hc1
      have k0 := (hbw.cell (p := ⟨g, o + k * 3, none⟩) hg).trans c0
      have k1 := (hbw.cell (p := ⟨g, o + k * 3 + 1, none⟩) hg).trans c1
      have k2 := (hbw.cell (p := ⟨g, o + k * 3 + 2, none⟩) hg).trans c2
      have hlen : xs.length = n * 3 := hown.1
      have ht := fun (W : World) (hb : Below wr.heap.size wr W) => own_below hown hb
      have HO := Lib.hid hown
      have HLX := Lib.hid hlen
      clear hc c0 c1 c2 he hl hown hlen ht
      go_wp2_with (go_at_call 41; refine (toEdge_any e _).mono ?_; rintro x w2 ⟨rfl, b2⟩; unfold GE.val; have h2 := own_below HO.out b2; have hlx := HLX.out; have f0 := h2.frozenAt (k * 3); have f1 := h2.frozenAt (k * 3 + 1); have f2 := h2.frozenAt (k * 3 + 2); (obtain ⟨y0, hy0⟩ : ∃ y, w2.cell? ⟨w.heap.size, k * 3, none⟩ = some y := ⟨_, (h2.cellAt (k * 3) (by omega)).trans (List.getElem?_eq_getElem (by omega))⟩); (obtain ⟨y1, hy1⟩ : ∃ y, w2.cell? ⟨w.heap.size, k * 3 + 1, none⟩ = some y := ⟨_, (h2.cellAt (k * 3 + 1) (by omega)).trans (List.getElem?_eq_getElem (by omega))⟩); (obtain ⟨y2, hy2⟩ : ∃ y, w2.cell? ⟨w.heap.size, k * 3 + 2, none⟩ = some y := ⟨_, (h2.cellAt (k * 3 + 2) (by omega)).trans (List.getElem?_eq_getElem (by omega))⟩); have HST := Lib.hid (((h2.stored (k * 3) (.int .i64 e.u)).1.stored (k * 3 + 1) (.int .i64 e.v)).1.stored (k * 3 + 2) (.int .i64 e.c)); have hbw2 := hbw.trans (b2.mono hbw.size); clear h2 hlx)
      go_roundw
      case rel =>
        refine ⟨k + 1, by omega, by go_num, ⟨_, HST.out.1, put3 xs k es e (by have := HLX.out; omega) HK.out HE.out⟩, ?_⟩
        exact ((hbw2.setCell (Nat.le_refl _) _).setCell (Nat.le_refl _) _).setCell (Nat.le_refl _) _
      case measure => simp [intOf]; omega
    · go_wp2
      go_ret
      have hkn : k = n := by omega
      subst hkn
      refine ⟨_, rfl, ?_, hbw⟩
      have hl := HL.out
      have hk := HK.out
      rw [List.take_of_length_le (by have := hown.1; omega), List.take_of_length_le (by omega)] at hk
      rw [← hk]; exact hown

end Go.Proofs.Ytdjaiijgdflopaa
