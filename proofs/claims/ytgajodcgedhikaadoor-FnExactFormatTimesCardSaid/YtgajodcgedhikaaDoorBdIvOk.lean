/-
  impl.IntervalOk.
  Contains.
  WALKS of laws.toInterval and laws.eqInterval; an interval that comes in.
  WALKS of the laws' helpers over shows: toNode, toNodeS, toTie, toTieS, toShow.
  WALKS of the laws' measures over shows: szIntS, szTieS, szNode, szNodeS, szShow.
-/
import Derived.Test.YtgajodcgedhikaaDoorProg
import Derived.Test.YtgajodcgedhikaaDoorBdShO
import Derived.Test.YtgajodcgedhikaaDoorIvOkA
import Derived.Test.YtgajodcgedhikaaDoorIvOkB
import Derived.Test.YtgajodcgedhikaaDoorIvOkC
import Derived.Test.YtgajodcgedhikaaDoorIvOkD
import Derived.Test.YtgajodcgedhikaaDoorIvOkE
import Derived.Test.YtgajodcgedhikaaDoorIvOkF
import Derived.WalkKit
import Derived.WalkSpells
import Derived.WalkLawsBesides
import Derived.Deep.QuietTactic
import Derived.Deep.RegionWith
import Derived.Deep.RegionHeld3
import Derived.BigQuiet
import Derived.Lib.Hide
import Derived.Below
import Derived.ProofKit
import Derived.Lib.SmallJoins
import Derived.Test.YtgajodcgedhikaaDoorBdDig
namespace Go.Proofs.YtgajodcgedhikaaDoor
open Go.RowKit
set_option linter.unusedVariables false
set_option linter.unusedSimpArgs false

end Go.Proofs.YtgajodcgedhikaaDoor

namespace Go.Proofs.YtgajodcgedhikaaDoor
open Go.RowKit
set_option linter.unusedVariables false
set_option linter.unusedSimpArgs false

end Go.Proofs.YtgajodcgedhikaaDoor

namespace Go.Proofs.YtgajodcgedhikaaDoor
open Go.RowKit Go.ChangeShapes Go.WideShapes Go.ChangeAt Go.WideMaps Go.WideElems
set_option linter.unusedVariables false
set_option linter.unusedSimpArgs false

end Go.Proofs.YtgajodcgedhikaaDoor

namespace Go.Proofs.YtgajodcgedhikaaDoor
open Go.RowKit
set_option linter.unusedVariables false
set_option linter.unusedSimpArgs false

theorem Tryd.info56 : (Tryd.prog.info? 56).map (fun i => (i.zero, i.size, i.bytes)) = some (some (.agg #[.string { data := #[] }, .slice none 0 0, .int .i64 0]), 3, 48) := by kernel_rfl

theorem Tryd.info48 : (Tryd.prog.info? 48).map (fun i => (i.zero, i.size, i.bytes)) = some (some (.agg #[.int .i64 0, .int .i64 0, .int .i64 0, .int .i64 0, .bool false]), 5, 40) := by kernel_rfl

theorem put3Z (xs : List Value) (k : Nat) (zs : List NL) (z : NL) (hl : k * 3 + 3 ≤ xs.length) (hk : xs.take (k * 3) = cellsZ zs) :
    (((xs.set (k * 3) (.string z.e.name)).set (k * 3 + 1) z.V).set (k * 3 + 2) (.int .i64 z.e.wat)).take ((k + 1) * 3) = cellsZ (zs ++ [z]) := by
  have hx : xs = xs.take (k * 3) ++ xs.drop (k * 3) := (List.take_append_drop _ _).symm
  obtain ⟨a, b, c, r, hr⟩ : ∃ a b c r, xs.drop (k * 3) = a :: b :: c :: r := by
    have hd : (xs.drop (k * 3)).length = xs.length - k * 3 := List.length_drop ..
    match h : xs.drop (k * 3) with
    | [] => rw [h] at hd; simp at hd; omega
    | [_] => rw [h] at hd; simp at hd; omega
    | [_, _] => rw [h] at hd; simp at hd; omega
    | a :: b :: c :: r => exact ⟨a, b, c, r, rfl⟩
  have hp : (xs.take (k * 3)).length = k * 3 := by simp; omega
  rw [hx, hr]
  rw [List.set_append_right _ _ (by omega), List.set_append_right _ _ (by omega), List.set_append_right _ _ (by omega), hp]
  rw [show k * 3 - k * 3 = 0 from by omega, show k * 3 + 1 - k * 3 = 1 from by omega, show k * 3 + 2 - k * 3 = 2 from by omega]
  rw [List.take_append, hp, List.take_of_length_le (by omega), show (k + 1) * 3 - k * 3 = 3 from by omega, cellsZ_append, hk]
  rfl
theorem put5T (xs : List Value) (k : Nat) (es : List GT) (e : GT) (hl : k * 5 + 5 ≤ xs.length) (hk : xs.take (k * 5) = cellsT (es.take k)) (he : es[k]? = some e) :
    (((((xs.set (k * 5) (.int .i64 e.u)).set (k * 5 + 1) (.int .i64 e.v)).set (k * 5 + 2) (.int .i64 e.lo)).set (k * 5 + 3) (.int .i64 e.hi)).set (k * 5 + 4) (.bool e.fr)).take ((k + 1) * 5) = cellsT (es.take (k + 1)) := by
  have hes : es.take (k + 1) = es.take k ++ [e] := by
    rw [List.take_add_one, he]; rfl
  have hx : xs = xs.take (k * 5) ++ xs.drop (k * 5) := (List.take_append_drop _ _).symm
  obtain ⟨a, b, c, d, f, r, hr⟩ : ∃ a b c d f r, xs.drop (k * 5) = a :: b :: c :: d :: f :: r := by
    have hd : (xs.drop (k * 5)).length = xs.length - k * 5 := List.length_drop ..
    match h : xs.drop (k * 5) with
    | [] => rw [h] at hd; simp at hd; omega
    | [_] => rw [h] at hd; simp at hd; omega
    | [_, _] => rw [h] at hd; simp at hd; omega
    | [_, _, _] => rw [h] at hd; simp at hd; omega
    | [_, _, _, _] => rw [h] at hd; simp at hd; omega
    | a :: b :: c :: d :: f :: r => exact ⟨a, b, c, d, f, r, rfl⟩
  have hp : (xs.take (k * 5)).length = k * 5 := by simp; omega
  rw [hx, hr]
  rw [List.set_append_right _ _ (by omega), List.set_append_right _ _ (by omega), List.set_append_right _ _ (by omega), List.set_append_right _ _ (by omega), List.set_append_right _ _ (by omega), hp]
  rw [show k * 5 - k * 5 = 0 from by omega, show k * 5 + 1 - k * 5 = 1 from by omega, show k * 5 + 2 - k * 5 = 2 from by omega, show k * 5 + 3 - k * 5 = 3 from by omega, show k * 5 + 4 - k * 5 = 4 from by omega]
  rw [List.take_append, hp, List.take_of_length_le (by omega), show (k + 1) * 5 - k * 5 = 5 from by omega, hes, cellsT_append, hk]
  rfl

set_option maxRecDepth 100000 in
set_option maxHeartbeats 4000000 in
theorem toNode_any (z : GN) (L : Option Addr) (c k : Nat) (w : World) (hk : z.lab.length = k) (hm : k ≤ 1048576) (hr : RowAt w L (z.lab.map intV)) :
    Calls Tryd.prog 38 #[.agg #[.string z.name, .slice L k c, .int .i64 z.wat]] w fun x w' => ∃ L' c', x = .returned (.agg #[.string z.name, .slice L' k c', .int .i64 z.wat]) ∧ w'.ownsRow w.heap.size 3 1 (.slice L' k c') k (z.lab.map intV) ∧ Below w.heap.size w w' := by
  obtain ⟨nm, lab, wat⟩ := z
  dsimp only at hk hr ⊢
  have HT := Lib.hid (fun W h => toIntS_any lab L k c W hk (by omega) h)
  have HR := Lib.hid hr
  clear hr hk
  go_enter Tryd.func38, Tryd.ntmps38
  go_wp2_with fail
  refine (HT.out _ (HR.out.below (by repeat (first | exact Below.refl _ _ | refine below_step (by assumption) (by first | omega | (simp; done) | (simp; omega)) ?_ | refine below_drewN ?_ _ | refine Below.drew ?_ | refine Below.setCell ?_ (by first | omega | (simp; done) | (simp; omega)) _ | refine Below.alloc ?_ (by first | omega | (simp; done) | (simp; omega)) _)))).mono ?_
  rintro e w1 ⟨v, rfl, h1, b1⟩
  obtain ⟨L', c', rfl⟩ := own_formZ h1
  have H1 := Lib.hid h1
  clear h1
  have c0_w1 : w1.cell? ⟨w.heap.size, 0, none⟩ = some (.string nm) := (b1.cell (p := ⟨w.heap.size, 0, none⟩) (by first | omega | (simp; done) | (simp; omega))).trans (by first | assumption | go_simp)
  have c1_w1 : w1.cell? ⟨w.heap.size, 1, none⟩ = some (.slice L k c) := (b1.cell (p := ⟨w.heap.size, 1, none⟩) (by first | omega | (simp; done) | (simp; omega))).trans (by first | assumption | go_simp)
  have c2_w1 : w1.cell? ⟨w.heap.size, 2, none⟩ = some (.int .i64 wat) := (b1.cell (p := ⟨w.heap.size, 2, none⟩) (by first | omega | (simp; done) | (simp; omega))).trans (by first | assumption | go_simp)
  have c3_w1 : w1.cell? ⟨w.heap.size + 1, 0, none⟩ = some (.string { data := #[] }) := (b1.cell (p := ⟨w.heap.size + 1, 0, none⟩) (by first | omega | (simp; done) | (simp; omega))).trans (by first | assumption | go_simp)
  have c4_w1 : w1.cell? ⟨w.heap.size + 1, 1, none⟩ = some (.slice none 0 0) := (b1.cell (p := ⟨w.heap.size + 1, 1, none⟩) (by first | omega | (simp; done) | (simp; omega))).trans (by first | assumption | go_simp)
  have c5_w1 : w1.cell? ⟨w.heap.size + 1, 2, none⟩ = some (.int .i64 0) := (b1.cell (p := ⟨w.heap.size + 1, 2, none⟩) (by first | omega | (simp; done) | (simp; omega))).trans (by first | assumption | go_simp)
  have c6_w1 : w1.cell? ⟨w.heap.size + 1 + 1, 0, none⟩ = some (.string nm) := (b1.cell (p := ⟨w.heap.size + 1 + 1, 0, none⟩) (by first | omega | (simp; done) | (simp; omega))).trans (by first | assumption | go_simp)
  have c7_w1 : w1.cell? ⟨w.heap.size + 1 + 1, 1, none⟩ = some (.slice none 0 0) := (b1.cell (p := ⟨w.heap.size + 1 + 1, 1, none⟩) (by first | omega | (simp; done) | (simp; omega))).trans (by first | assumption | go_simp)
  have c8_w1 : w1.cell? ⟨w.heap.size + 1 + 1, 2, none⟩ = some (.int .i64 0) := (b1.cell (p := ⟨w.heap.size + 1 + 1, 2, none⟩) (by first | omega | (simp; done) | (simp; omega))).trans (by first | assumption | go_simp)
  have f0_w1 : w1.frozen? ⟨w.heap.size + 1, 0, none⟩ = false := (b1.frozen (p := ⟨w.heap.size + 1, 0, none⟩) (by first | omega | (simp; done) | (simp; omega))).trans (by first | assumption | go_simp)
  have f1_w1 : w1.frozen? ⟨w.heap.size + 1, 1, none⟩ = false := (b1.frozen (p := ⟨w.heap.size + 1, 1, none⟩) (by first | omega | (simp; done) | (simp; omega))).trans (by first | assumption | go_simp)
  have f2_w1 : w1.frozen? ⟨w.heap.size + 1, 2, none⟩ = false := (b1.frozen (p := ⟨w.heap.size + 1, 2, none⟩) (by first | omega | (simp; done) | (simp; omega))).trans (by first | assumption | go_simp)
  have f3_w1 : w1.frozen? ⟨w.heap.size + 1 + 1, 0, none⟩ = false := (b1.frozen (p := ⟨w.heap.size + 1 + 1, 0, none⟩) (by first | omega | (simp; done) | (simp; omega))).trans (by first | assumption | go_simp)
  have f4_w1 : w1.frozen? ⟨w.heap.size + 1 + 1, 1, none⟩ = false := (b1.frozen (p := ⟨w.heap.size + 1 + 1, 1, none⟩) (by first | omega | (simp; done) | (simp; omega))).trans (by first | assumption | go_simp)
  have f5_w1 : w1.frozen? ⟨w.heap.size + 1 + 1, 2, none⟩ = false := (b1.frozen (p := ⟨w.heap.size + 1 + 1, 2, none⟩) (by first | omega | (simp; done) | (simp; omega))).trans (by first | assumption | go_simp)
  have s0_w1 : w.heap.size < w1.heap.size := Nat.lt_of_lt_of_le (by first | omega | (simp; done) | (simp; omega)) b1.size
  have s1_w1 : w.heap.size + 1 < w1.heap.size := Nat.lt_of_lt_of_le (by first | omega | (simp; done) | (simp; omega)) b1.size
  have s2_w1 : w.heap.size + 1 + 1 < w1.heap.size := Nat.lt_of_lt_of_le (by first | omega | (simp; done) | (simp; omega)) b1.size
  have B_w1 : Below w.heap.size w w1 := (by repeat (first | exact Below.refl _ _ | refine below_step (by assumption) (by first | omega | (simp; done) | (simp; omega)) ?_ | refine below_drewN ?_ _ | refine Below.drew ?_ | refine Below.setCell ?_ (by first | omega | (simp; done) | (simp; omega)) _ | refine Below.alloc ?_ (by first | omega | (simp; done) | (simp; omega)) _))
  clear b1  
  go_wp2_with fail
  refine bodyPost_ret (v := .agg #[.string nm, .slice L' k c', .int .i64 wat]) (by first | (simp [results, Tryd.results38, go_sem]; done) | simp [*, results, Tryd.results38, go_sem]) rfl ⟨L', c', rfl, ?_, ?_⟩
  · refine own_base (B := w.heap.size + 1 + 1 + 1) ?_ (by omega)
    have h3 := H1.out
    simp at h3
    repeat (refine own_set ?_ _ _ (by simp))
    exact h3
  · exact by repeat (first | exact B_w1 | refine Below.setCell ?_ (by first | omega | (simp; done) | (simp; omega)) _)

set_option maxRecDepth 100000 in
set_option maxHeartbeats 4000000 in
theorem toNodeS_any (ns : List GN) (A : Option Addr) (n c : Nat) (w : World) (hn : ns.length = n) (hm : n ≤ 1048576) (hl : ∀ e ∈ ns, e.lab.length ≤ 1048576) (hr : NodesAt w A ns) :
    Calls Tryd.prog 22 #[.slice A n c] w fun x w' => ∃ (A' : Option Addr) (c' : Nat) (zs : List NL), x = .returned (.slice A' n c') ∧ nodesZ zs = ns ∧ OwnN w' w.heap.size w'.heap.size (.slice A' n c') zs ∧ Below w.heap.size w w' := by
  obtain ⟨i0, hi, hz0, hz1, hz2⟩ := info_parts Tryd.info56
  have hb2 : i0.bytes * n ≤ 281474976710656 := by rw [hz2]; omega
  have HR := Lib.hid hr
  have HL := Lib.hid hn
  have HB := Lib.hid hl
  clear hr hn hl
  go_enter Tryd.func22, Tryd.ntmps22
  go_wp2_with (refine wpList_make_full _ rfl _ _ 28 rfl w.heap.size 56 i0 (.agg #[.string { data := #[] }, .slice none 0 0, .int .i64 0]) 3 Tryd.underlying28 hi hz0 hz1 .i64 .i64 _ _ n rfl rfl rfl rfl hb2 (by unfold maxLen; omega) (Nat.le_refl _) ?_)
  intro w1 h1 g1
  have b1 : Below w.heap.size w w1 := (Below.refl _ w).grown g1 (Nat.le_refl _) (fun k hk => by cases hk)
  clear g1
  have h1b : ∃ xs, w1.ownsRow w.heap.size 56 3 (.slice (some ⟨w.heap.size, 0, none⟩) n n) n xs ∧ xs.take (0 * 3) = cellsZ [] := ⟨_, h1, by simp [cellsZ]⟩
  clear h1
  go_wp2_with fail
  go_loopw [4] (fun i wr => ∃ (k : Nat) (zs : List NL), k ≤ n ∧ i = .int .i64 k ∧ zs.length = k ∧ nodesZ zs = ns.take k ∧ (∃ xs, wr.ownsRow w.heap.size 56 3 (.slice (some ⟨w.heap.size, 0, none⟩) n n) n xs ∧ xs.take (k * 3) = cellsZ zs) ∧ (∀ z ∈ zs, wr.ownsRow (w.heap.size + 1) 3 1 z.V z.e.lab.length (z.e.lab.map intV)) ∧ zs.Pairwise (fun a b => ∀ q, a.V.ownBlock = some q → b.V.ownBlock ≠ some q) ∧ Below w.heap.size w wr) (fun i _ => n - (intOf i).toNat)
  case atStart => exact ⟨0, [], Nat.zero_le _, rfl, rfl, rfl, h1b, by simp, List.Pairwise.nil, b1⟩
  case round =>
    obtain ⟨k, zs, hk, rfl, hzl, hzn, ⟨xs, hown, htk⟩, hlab, hdist, hbw⟩ := hrel
    have HK := Lib.hid htk
    have HZL := Lib.hid hzl
    have HZN := Lib.hid hzn
    have HLAB := Lib.hid hlab
    have HDI := Lib.hid hdist
    clear htk hzl hzn hlab hdist
    by_cases hlt : k < n
    · have hl := HL.out
      obtain ⟨g, o, rfl, hg, hc⟩ := HR.out (by omega)
      have hc1 := hc k (by omega)
      have hb1 := HB.out ns[k] (List.getElem_mem _)
      obtain ⟨e, he⟩ : ∃ e, e = ns[k]'(by omega) := ⟨_, rfl⟩
      rw [← he] at hc1 hb1
      have HE : Hid (ns[k]? = some e) := Lib.hid (by rw [he]; exact List.getElem?_eq_getElem _)
      obtain ⟨c0, c2, L, cl, c1, hrow⟩ := hc1
      obtain ⟨q, hq⟩ : ∃ q, q = e.lab.length := ⟨_, rfl⟩
      rw [← hq] at c1 hb1
      have HQ := Lib.hid hq.symm
      have k0 := (hbw.cell (p := ⟨g, o + k * 3, none⟩) hg).trans c0
      have k1 := (hbw.cell (p := ⟨g, o + k * 3 + 1, none⟩) hg).trans c1
      have k2 := (hbw.cell (p := ⟨g, o + k * 3 + 2, none⟩) hg).trans c2
      have hlen : xs.length = n * 3 := hown.1
      have HO := Lib.hid hown
      have HLX := Lib.hid hlen
      have HRW := Lib.hid (hrow.below hbw)
      have zr : w.heap.size < wr.heap.size := (hown.lt _ rfl).2
      clear hc c0 c1 c2 he hl hown hlen hrow hq
      go_wp2_with fail
      refine (toNode_any e L cl q _ HQ.out hb1 HRW.out).mono ?_
      rintro x w2 ⟨L', c', rfl, hn2, b2⟩
      have h2 := own_below HO.out b2
      have hlx := HLX.out
      have f0 := h2.frozenAt (k * 3)
      have f1 := h2.frozenAt (k * 3 + 1)
      have f2 := h2.frozenAt (k * 3 + 2)
      obtain ⟨y0, hy0⟩ : ∃ y, w2.cell? ⟨w.heap.size, k * 3, none⟩ = some y := ⟨_, (h2.cellAt (k * 3) (by omega)).trans (List.getElem?_eq_getElem (by omega))⟩
      obtain ⟨y1, hy1⟩ : ∃ y, w2.cell? ⟨w.heap.size, k * 3 + 1, none⟩ = some y := ⟨_, (h2.cellAt (k * 3 + 1) (by omega)).trans (List.getElem?_eq_getElem (by omega))⟩
      obtain ⟨y2, hy2⟩ : ∃ y, w2.cell? ⟨w.heap.size, k * 3 + 2, none⟩ = some y := ⟨_, (h2.cellAt (k * 3 + 2) (by omega)).trans (List.getElem?_eq_getElem (by omega))⟩
      have HST := Lib.hid (((h2.stored (k * 3) (.string e.name)).1.stored (k * 3 + 1) (.slice L' q c')).1.stored (k * 3 + 2) (.int .i64 e.wat))
      have hbw2 := hbw.trans (b2.mono hbw.size)
      have HN2 := Lib.hid hn2
      have HB2 := Lib.hid b2
      have HW2 := Lib.hid hbw2
      clear h2 hlx hn2 b2 hbw2
      go_wp2_with fail
      go_roundw
      case rel =>
        have hq := HQ.out
        subst hq
        have hzl := HZL.out
        refine ⟨k + 1, zs ++ [NL.mk e L' c'], by omega, by go_num, by rw [List.length_append, hzl]; rfl, ?_, ⟨_, HST.out.1, put3Z xs k zs (NL.mk e L' c') (by have := HLX.out; omega) HK.out⟩, ?_, ?_, ((HW2.out.setCell (Nat.le_refl _) _).setCell (Nat.le_refl _) _).setCell (Nat.le_refl _) _⟩
        · unfold nodesZ
          rw [List.map_append, List.take_add_one, HE.out]
          have := HZN.out
          unfold nodesZ at this
          rw [this]; rfl
        · intro z hz
          rcases List.mem_append.1 hz with h | h
          · exact own_set (own_set (own_set (own_below (HLAB.out z h) HB2.out) _ _ (by dsimp only; omega)) _ _ (by dsimp only; omega)) _ _ (by dsimp only; omega)
          · obtain rfl : z = ⟨e, L', c'⟩ := by simpa using h
            exact own_base (own_set (own_set (own_set HN2.out _ _ (by dsimp only; omega)) _ _ (by dsimp only; omega)) _ _ (by dsimp only; omega)) (by omega)
        · rw [List.pairwise_append]
          refine ⟨HDI.out, List.pairwise_singleton _ _, fun a ha b hb q1 h1 h2 => ?_⟩
          obtain rfl : b = ⟨e, L', c'⟩ := by simpa using hb
          have a1 := ((HLAB.out a ha).lt q1 h1).2
          have a2 := (HN2.out.lt q1 h2).1
          omega
      case measure => simp [intOf]; omega
    · go_wp2_with fail
      go_ret
      have hkn : k = n := by omega
      subst hkn
      have hl := HL.out
      have hzl := HZL.out
      have hzn := HZN.out
      have hk := HK.out
      rw [List.take_of_length_le (by have := hown.1; omega)] at hk
      rw [List.take_of_length_le (by omega)] at hzn
      subst hk
      refine ⟨_, _, zs, rfl, hzn, ⟨?_, fun z hz => own_base (HLAB.out z hz) (by omega), fun z hz b hb => ?_, HDI.out, fun b hb => (hown.lt b hb).2⟩, hbw⟩
      · rw [hzl]; exact hown
      · have := (HLAB.out z hz).lt b hb
        refine ⟨fun e => ?_, this.2⟩
        simp [Value.ownBlock] at e
        omega

set_option maxRecDepth 100000 in
set_option maxHeartbeats 2000000 in
theorem toTie_any (e : GT) (w : World) :
    Calls Tryd.prog 39 #[e.val] w fun x w' => x = .returned e.val ∧ Below w.heap.size w w' := by
  obtain ⟨u, v, lo, hi, fr⟩ := e
  unfold GT.val
  go_enter Tryd.func39, Tryd.ntmps39
  go_wp2_with fail
  refine bodyPost_ret (v := .agg #[.int .i64 u, .int .i64 v, .int .i64 lo, .int .i64 hi, .bool fr]) (by first | (simp [results, Tryd.results39, go_sem]; done) | simp [*, results, Tryd.results39, go_sem]) rfl ⟨rfl, (by repeat (first | exact Below.refl _ _ | refine below_step (by assumption) (by first | omega | (simp; done) | (simp; omega)) ?_ | refine below_drewN ?_ _ | refine Below.drew ?_ | refine Below.setCell ?_ (by first | omega | (simp; done) | (simp; omega)) _ | refine Below.alloc ?_ (by first | omega | (simp; done) | (simp; omega)) _))⟩

set_option maxRecDepth 100000 in
set_option maxHeartbeats 2000000 in
theorem toTieS_any (es : List GT) (A : Option Addr) (n c : Nat) (w : World) (hn : es.length = n) (hm : n ≤ 1048576) (hr : TieAt w A es) :
    Calls Tryd.prog 23 #[.slice A n c] w fun e w' => ∃ v, e = .returned v ∧ w'.ownsRow w.heap.size 48 5 v n (cellsT es) ∧ Below w.heap.size w w' := by
  obtain ⟨i0, hi, hz0, hz1, hz2⟩ := info_parts Tryd.info48
  have hb2 : i0.bytes * n ≤ 281474976710656 := by rw [hz2]; omega
  have HR := Lib.hid hr
  have HL := Lib.hid hn
  clear hr hn
  go_enter Tryd.func23, Tryd.ntmps23
  go_wp2_with (refine wpList_make_full _ rfl _ _ 29 rfl w.heap.size 48 i0 (.agg #[.int .i64 0, .int .i64 0, .int .i64 0, .int .i64 0, .bool false]) 5 Tryd.underlying29 hi hz0 hz1 .i64 .i64 _ _ n rfl rfl rfl rfl hb2 (by unfold maxLen; omega) (Nat.le_refl _) ?_)
  intro w1 h1 g1
  have b1 : Below w.heap.size w w1 := (Below.refl _ w).grown g1 (Nat.le_refl _) (fun k hk => by cases hk)
  clear g1
  have h1b : ∃ xs, w1.ownsRow w.heap.size 48 5 (.slice (some ⟨w.heap.size, 0, none⟩) n n) n xs ∧ xs.take (0 * 5) = cellsT (es.take 0) := ⟨_, h1, by simp [cellsT]⟩
  clear h1
  go_wp2_with fail
  go_loopw [4] (fun i wr => ∃ k : Nat, k ≤ n ∧ i = .int .i64 k ∧ (∃ xs, wr.ownsRow w.heap.size 48 5 (.slice (some ⟨w.heap.size, 0, none⟩) n n) n xs ∧ xs.take (k * 5) = cellsT (es.take k)) ∧ Below w.heap.size w wr) (fun i _ => n - (intOf i).toNat)
  case atStart => exact ⟨0, Nat.zero_le _, rfl, h1b, b1⟩
  case round =>
    obtain ⟨k, hk, rfl, ⟨xs, hown, htk⟩, hbw⟩ := hrel
    have HK := Lib.hid htk
    clear htk
    by_cases hlt : k < n
    · have hl := HL.out
      obtain ⟨g, o, rfl, hg, hc⟩ := HR.out (by omega)
      have hc1 := hc k (by omega)
      obtain ⟨e, he⟩ : ∃ e, e = es[k]'(by omega) := ⟨_, rfl⟩
      rw [← he] at hc1
      have HE : Hid (es[k]? = some e) := Lib.hid (by rw [he]; exact List.getElem?_eq_getElem _)
      obtain ⟨c0, c1, c2, c3, c4⟩ := hc1
      have k0 := (hbw.cell (p := ⟨g, o + k * 5, none⟩) hg).trans c0
      have k1 := (hbw.cell (p := ⟨g, o + k * 5 + 1, none⟩) hg).trans c1
      have k2 := (hbw.cell (p := ⟨g, o + k * 5 + 2, none⟩) hg).trans c2
      have k3 := (hbw.cell (p := ⟨g, o + k * 5 + 3, none⟩) hg).trans c3
      have k4 := (hbw.cell (p := ⟨g, o + k * 5 + 4, none⟩) hg).trans c4
      have hlen : xs.length = n * 5 := hown.1
      have HO := Lib.hid hown
      have HLX := Lib.hid hlen
      have HTT := Lib.hid (fun W => toTie_any e W)
      unfold GT.val at HTT
      clear hc c0 c1 c2 c3 c4 he hl hown hlen
      go_wp2_with fail
      refine (HTT.out _).mono ?_
      rintro x w2 ⟨rfl, b2⟩
      have h2 := own_below HO.out b2
      have hlx := HLX.out
      have f0 := h2.frozenAt (k * 5)
      have f1 := h2.frozenAt (k * 5 + 1)
      have f2 := h2.frozenAt (k * 5 + 2)
      have f3 := h2.frozenAt (k * 5 + 3)
      have f4 := h2.frozenAt (k * 5 + 4)
      obtain ⟨y0, hy0⟩ : ∃ y, w2.cell? ⟨w.heap.size, k * 5, none⟩ = some y := ⟨_, (h2.cellAt (k * 5) (by omega)).trans (List.getElem?_eq_getElem (by omega))⟩
      obtain ⟨y1, hy1⟩ : ∃ y, w2.cell? ⟨w.heap.size, k * 5 + 1, none⟩ = some y := ⟨_, (h2.cellAt (k * 5 + 1) (by omega)).trans (List.getElem?_eq_getElem (by omega))⟩
      obtain ⟨y2, hy2⟩ : ∃ y, w2.cell? ⟨w.heap.size, k * 5 + 2, none⟩ = some y := ⟨_, (h2.cellAt (k * 5 + 2) (by omega)).trans (List.getElem?_eq_getElem (by omega))⟩
      obtain ⟨y3, hy3⟩ : ∃ y, w2.cell? ⟨w.heap.size, k * 5 + 3, none⟩ = some y := ⟨_, (h2.cellAt (k * 5 + 3) (by omega)).trans (List.getElem?_eq_getElem (by omega))⟩
      obtain ⟨y4, hy4⟩ : ∃ y, w2.cell? ⟨w.heap.size, k * 5 + 4, none⟩ = some y := ⟨_, (h2.cellAt (k * 5 + 4) (by omega)).trans (List.getElem?_eq_getElem (by omega))⟩
      have HST := Lib.hid (((((h2.stored (k * 5) (.int .i64 e.u)).1.stored (k * 5 + 1) (.int .i64 e.v)).1.stored (k * 5 + 2) (.int .i64 e.lo)).1.stored (k * 5 + 3) (.int .i64 e.hi)).1.stored (k * 5 + 4) (.bool e.fr))
      have HBW := Lib.hid (hbw.trans (b2.mono hbw.size))
      clear h2 hlx b2
      go_wp2_with fail
      go_roundw
      case rel =>
        refine ⟨k + 1, by omega, by go_num, ⟨_, HST.out.1, put5T xs k es e (by have := HLX.out; omega) HK.out HE.out⟩, ?_⟩
        exact ((((HBW.out.setCell (Nat.le_refl _) _).setCell (Nat.le_refl _) _).setCell (Nat.le_refl _) _).setCell (Nat.le_refl _) _).setCell (Nat.le_refl _) _
      case measure => simp [intOf]; omega
    · go_wp2_with fail
      go_ret
      have hkn : k = n := by omega
      subst hkn
      refine ⟨_, rfl, ?_, hbw⟩
      have hl := HL.out
      have hk := HK.out
      rw [List.take_of_length_le (by have := hown.1; omega), List.take_of_length_le (by omega)] at hk
      rw [← hk]; exact hown

set_option maxRecDepth 100000 in
set_option maxHeartbeats 4000000 in
theorem toShow_any (s : GS) (A : Option Addr) (k c : Nat) (B : Option Addr) (m d : Nat) (w : World) (hs : ShB s) (hr : ShowAt w s A k B m) :
    Calls Tryd.prog 8 #[shV A k c B m d s.h] w fun x w' => ∃ (A' : Option Addr) (c' : Nat) (B' : Option Addr) (d' : Nat) (zs : List NL), x = .returned (shV A' k c' B' m d' s.h) ∧ OwnS w' w.heap.size w'.heap.size s A' k c' B' m d' zs ∧ Below w.heap.size w w' := by
  have HN := Lib.hid (fun W h => toNodeS_any s.ns A k c W hr.ln (by have := hs.ns; have := hr.ln; omega) (fun e he => (hs.each e he).2) h)
  have HT := Lib.hid (fun W h => toTieS_any s.ts B m d W hr.lt (by have := hs.ts; have := hr.lt; omega) h)
  have HR := Lib.hid hr
  clear hr hs
  obtain ⟨h, hh⟩ : ∃ h, h = s.h := ⟨_, rfl⟩
  rw [← hh]
  clear hh
  unfold shV
  go_enter Tryd.func8, Tryd.ntmps8
  go_wp2_with fail
  refine (HN.out _ (HR.out.nodes.below (by repeat (first | exact Below.refl _ _ | refine below_step (by assumption) (by first | omega | (simp; done) | (simp; omega)) ?_ | refine below_drewN ?_ _ | refine Below.drew ?_ | refine Below.setCell ?_ (by first | omega | (simp; done) | (simp; omega)) _ | refine Below.alloc ?_ (by first | omega | (simp; done) | (simp; omega)) _)))).mono ?_
  rintro e w1 ⟨A', c', zs, rfl, hz, h1, b1⟩
  have HZ := Lib.hid hz
  have H1 := Lib.hid h1
  clear hz h1
  have c0_w1 : w1.cell? ⟨w.heap.size, 0, none⟩ = some (.slice A k c) := (b1.cell (p := ⟨w.heap.size, 0, none⟩) (by first | omega | (simp; done) | (simp; omega))).trans (by first | assumption | go_simp)
  have c1_w1 : w1.cell? ⟨w.heap.size, 1, none⟩ = some (.slice B m d) := (b1.cell (p := ⟨w.heap.size, 1, none⟩) (by first | omega | (simp; done) | (simp; omega))).trans (by first | assumption | go_simp)
  have c2_w1 : w1.cell? ⟨w.heap.size, 2, none⟩ = some (.int .i64 h) := (b1.cell (p := ⟨w.heap.size, 2, none⟩) (by first | omega | (simp; done) | (simp; omega))).trans (by first | assumption | go_simp)
  have c3_w1 : w1.cell? ⟨w.heap.size + 1, 0, none⟩ = some (.slice none 0 0) := (b1.cell (p := ⟨w.heap.size + 1, 0, none⟩) (by first | omega | (simp; done) | (simp; omega))).trans (by first | assumption | go_simp)
  have c4_w1 : w1.cell? ⟨w.heap.size + 1, 1, none⟩ = some (.slice none 0 0) := (b1.cell (p := ⟨w.heap.size + 1, 1, none⟩) (by first | omega | (simp; done) | (simp; omega))).trans (by first | assumption | go_simp)
  have c5_w1 : w1.cell? ⟨w.heap.size + 1, 2, none⟩ = some (.int .i64 0) := (b1.cell (p := ⟨w.heap.size + 1, 2, none⟩) (by first | omega | (simp; done) | (simp; omega))).trans (by first | assumption | go_simp)
  have c6_w1 : w1.cell? ⟨w.heap.size + 1 + 1, 0, none⟩ = some (.slice none 0 0) := (b1.cell (p := ⟨w.heap.size + 1 + 1, 0, none⟩) (by first | omega | (simp; done) | (simp; omega))).trans (by first | assumption | go_simp)
  have c7_w1 : w1.cell? ⟨w.heap.size + 1 + 1, 1, none⟩ = some (.slice none 0 0) := (b1.cell (p := ⟨w.heap.size + 1 + 1, 1, none⟩) (by first | omega | (simp; done) | (simp; omega))).trans (by first | assumption | go_simp)
  have c8_w1 : w1.cell? ⟨w.heap.size + 1 + 1, 2, none⟩ = some (.int .i64 0) := (b1.cell (p := ⟨w.heap.size + 1 + 1, 2, none⟩) (by first | omega | (simp; done) | (simp; omega))).trans (by first | assumption | go_simp)
  have f0_w1 : w1.frozen? ⟨w.heap.size + 1, 0, none⟩ = false := (b1.frozen (p := ⟨w.heap.size + 1, 0, none⟩) (by first | omega | (simp; done) | (simp; omega))).trans (by first | assumption | go_simp)
  have f1_w1 : w1.frozen? ⟨w.heap.size + 1, 1, none⟩ = false := (b1.frozen (p := ⟨w.heap.size + 1, 1, none⟩) (by first | omega | (simp; done) | (simp; omega))).trans (by first | assumption | go_simp)
  have f2_w1 : w1.frozen? ⟨w.heap.size + 1, 2, none⟩ = false := (b1.frozen (p := ⟨w.heap.size + 1, 2, none⟩) (by first | omega | (simp; done) | (simp; omega))).trans (by first | assumption | go_simp)
  have f3_w1 : w1.frozen? ⟨w.heap.size + 1 + 1, 0, none⟩ = false := (b1.frozen (p := ⟨w.heap.size + 1 + 1, 0, none⟩) (by first | omega | (simp; done) | (simp; omega))).trans (by first | assumption | go_simp)
  have f4_w1 : w1.frozen? ⟨w.heap.size + 1 + 1, 1, none⟩ = false := (b1.frozen (p := ⟨w.heap.size + 1 + 1, 1, none⟩) (by first | omega | (simp; done) | (simp; omega))).trans (by first | assumption | go_simp)
  have f5_w1 : w1.frozen? ⟨w.heap.size + 1 + 1, 2, none⟩ = false := (b1.frozen (p := ⟨w.heap.size + 1 + 1, 2, none⟩) (by first | omega | (simp; done) | (simp; omega))).trans (by first | assumption | go_simp)
  have s0_w1 : w.heap.size < w1.heap.size := Nat.lt_of_lt_of_le (by first | omega | (simp; done) | (simp; omega)) b1.size
  have s1_w1 : w.heap.size + 1 < w1.heap.size := Nat.lt_of_lt_of_le (by first | omega | (simp; done) | (simp; omega)) b1.size
  have s2_w1 : w.heap.size + 1 + 1 < w1.heap.size := Nat.lt_of_lt_of_le (by first | omega | (simp; done) | (simp; omega)) b1.size
  have B_w1 : Below w.heap.size w w1 := (by repeat (first | exact Below.refl _ _ | refine below_step (by assumption) (by first | omega | (simp; done) | (simp; omega)) ?_ | refine below_drewN ?_ _ | refine Below.drew ?_ | refine Below.setCell ?_ (by first | omega | (simp; done) | (simp; omega)) _ | refine Below.alloc ?_ (by first | omega | (simp; done) | (simp; omega)) _))
  clear b1  
  obtain ⟨wa, hwa⟩ : ∃ W, W = w1.setCell ⟨w.heap.size + 1 + 1, 0, none⟩ (.slice A' k c') := ⟨_, rfl⟩
  have za : wa.heap.size = w1.heap.size := by rw [hwa]; simp
  have d0 : wa.cell? ⟨w.heap.size, 0, none⟩ = some (.slice A k c) := by rw [hwa]; go_simp
  have d1 : wa.cell? ⟨w.heap.size, 1, none⟩ = some (.slice B m d) := by rw [hwa]; go_simp
  have d2 : wa.cell? ⟨w.heap.size, 2, none⟩ = some (.int .i64 h) := by rw [hwa]; go_simp
  have d3 : wa.cell? ⟨w.heap.size + 1, 0, none⟩ = some (.slice none 0 0) := by rw [hwa]; go_simp
  have d4 : wa.cell? ⟨w.heap.size + 1, 1, none⟩ = some (.slice none 0 0) := by rw [hwa]; go_simp
  have d5 : wa.cell? ⟨w.heap.size + 1, 2, none⟩ = some (.int .i64 0) := by rw [hwa]; go_simp
  have d6 : wa.cell? ⟨w.heap.size + 1 + 1, 0, none⟩ = some ((.slice A' k c')) := by rw [hwa]; go_simp
  have d7 : wa.cell? ⟨w.heap.size + 1 + 1, 1, none⟩ = some (.slice none 0 0) := by rw [hwa]; go_simp
  have d8 : wa.cell? ⟨w.heap.size + 1 + 1, 2, none⟩ = some (.int .i64 0) := by rw [hwa]; go_simp
  have e0 : wa.frozen? ⟨w.heap.size + 1, 0, none⟩ = false := by rw [hwa]; go_simp
  have e1 : wa.frozen? ⟨w.heap.size + 1, 1, none⟩ = false := by rw [hwa]; go_simp
  have e2 : wa.frozen? ⟨w.heap.size + 1, 2, none⟩ = false := by rw [hwa]; go_simp
  have e3 : wa.frozen? ⟨w.heap.size + 1 + 1, 0, none⟩ = false := by rw [hwa]; go_simp
  have e4 : wa.frozen? ⟨w.heap.size + 1 + 1, 1, none⟩ = false := by rw [hwa]; go_simp
  have e5 : wa.frozen? ⟨w.heap.size + 1 + 1, 2, none⟩ = false := by rw [hwa]; go_simp
  have BA : Below w.heap.size w wa := by rw [hwa]; exact B_w1.setCell (by dsimp only; omega) _
  have HA := Lib.hid (show OwnN wa _ _ _ _ from by rw [hwa]; exact H1.out.set _ _ (by simp))
  have LO : Hid (w.heap.size + 1 + 1 < wa.heap.size) := Lib.hid (by omega)
  have ZW := Lib.hid za
  have HWA := Lib.hid hwa
  have BAH := Lib.hid BA
  have DS := Lib.hid (And.intro d0 (And.intro d1 (And.intro d2 (And.intro d3 (And.intro d4 (And.intro d5 (And.intro d6 (And.intro d7 (And.intro d8 (And.intro e0 (And.intro e1 (And.intro e2 (And.intro e3 (And.intro e4 e5))))))))))))))
  clear za hwa BA d0 d1 d2 d3 d4 d5 d6 d7 d8 e0 e1 e2 e3 e4 e5
  go_wp2_with fail
  rw [← HWA.out]
  obtain ⟨d0, d1, d2, d3, d4, d5, d6, d7, d8, e0, e1, e2, e3, e4, e5⟩ := DS.out
  have BA := BAH.out
  have s0 := LO.out
  clear c0_w1 c1_w1 c2_w1 c3_w1 c4_w1 c5_w1 c6_w1 c7_w1 c8_w1 f0_w1 f1_w1 f2_w1 f3_w1 f4_w1 f5_w1 H1 s0_w1 s1_w1 s2_w1 B_w1 HWA DS BAH
  refine (HT.out _ (HR.out.ties.below BA)).mono ?_
  rintro e w2 ⟨v, rfl, h2, b2⟩
  obtain ⟨B', d', rfl, _, _⟩ := ownT_form h2
  have H2 := Lib.hid h2
  have p0 : w2.cell? ⟨w.heap.size, 0, none⟩ = some (.slice A k c) := (b2.cell (p := ⟨w.heap.size, 0, none⟩) (by dsimp only; omega)).trans d0
  have p1 : w2.cell? ⟨w.heap.size, 1, none⟩ = some (.slice B m d) := (b2.cell (p := ⟨w.heap.size, 1, none⟩) (by dsimp only; omega)).trans d1
  have p2 : w2.cell? ⟨w.heap.size, 2, none⟩ = some (.int .i64 h) := (b2.cell (p := ⟨w.heap.size, 2, none⟩) (by dsimp only; omega)).trans d2
  have p3 : w2.cell? ⟨w.heap.size + 1, 0, none⟩ = some (.slice none 0 0) := (b2.cell (p := ⟨w.heap.size + 1, 0, none⟩) (by dsimp only; omega)).trans d3
  have p4 : w2.cell? ⟨w.heap.size + 1, 1, none⟩ = some (.slice none 0 0) := (b2.cell (p := ⟨w.heap.size + 1, 1, none⟩) (by dsimp only; omega)).trans d4
  have p5 : w2.cell? ⟨w.heap.size + 1, 2, none⟩ = some (.int .i64 0) := (b2.cell (p := ⟨w.heap.size + 1, 2, none⟩) (by dsimp only; omega)).trans d5
  have p6 : w2.cell? ⟨w.heap.size + 1 + 1, 0, none⟩ = some ((.slice A' k c')) := (b2.cell (p := ⟨w.heap.size + 1 + 1, 0, none⟩) (by dsimp only; omega)).trans d6
  have p7 : w2.cell? ⟨w.heap.size + 1 + 1, 1, none⟩ = some (.slice none 0 0) := (b2.cell (p := ⟨w.heap.size + 1 + 1, 1, none⟩) (by dsimp only; omega)).trans d7
  have p8 : w2.cell? ⟨w.heap.size + 1 + 1, 2, none⟩ = some (.int .i64 0) := (b2.cell (p := ⟨w.heap.size + 1 + 1, 2, none⟩) (by dsimp only; omega)).trans d8
  have q0 : w2.frozen? ⟨w.heap.size + 1, 0, none⟩ = false := (b2.frozen (p := ⟨w.heap.size + 1, 0, none⟩) (by dsimp only; omega)).trans e0
  have q1 : w2.frozen? ⟨w.heap.size + 1, 1, none⟩ = false := (b2.frozen (p := ⟨w.heap.size + 1, 1, none⟩) (by dsimp only; omega)).trans e1
  have q2 : w2.frozen? ⟨w.heap.size + 1, 2, none⟩ = false := (b2.frozen (p := ⟨w.heap.size + 1, 2, none⟩) (by dsimp only; omega)).trans e2
  have q3 : w2.frozen? ⟨w.heap.size + 1 + 1, 0, none⟩ = false := (b2.frozen (p := ⟨w.heap.size + 1 + 1, 0, none⟩) (by dsimp only; omega)).trans e3
  have q4 : w2.frozen? ⟨w.heap.size + 1 + 1, 1, none⟩ = false := (b2.frozen (p := ⟨w.heap.size + 1 + 1, 1, none⟩) (by dsimp only; omega)).trans e4
  have q5 : w2.frozen? ⟨w.heap.size + 1 + 1, 2, none⟩ = false := (b2.frozen (p := ⟨w.heap.size + 1 + 1, 2, none⟩) (by dsimp only; omega)).trans e5
  have B2 := Lib.hid (BA.trans (b2.mono BA.size))
  have s2 : w.heap.size + 1 + 1 < w2.heap.size := Nat.lt_of_lt_of_le s0 b2.size
  have HN2 := Lib.hid (HA.out.below b2)
  have ZB := Lib.hid b2.size
  clear h2 b2 d0 d1 d2 d3 d4 d5 d6 d7 d8 e0 e1 e2 e3 e4 e5 BA s0
  go_wp2_with fail
  refine bodyPost_ret (v := .agg #[.slice A' k c', .slice B' m d', .int .i64 h]) (by first | (simp [results, Tryd.results8, go_sem]; done) | simp [*, results, Tryd.results8, go_sem]) rfl ?_
  have hts : ∀ b, (Value.slice B' m d').ownBlock = some b → wa.heap.size ≤ b ∧ b < w2.heap.size := fun b hb => H2.out.lt b hb
  have hla : ∀ b, (Value.slice A' k c').ownBlock = some b → b < wa.heap.size := fun b hb => (HA.out.row.lt b hb).2
  have hlz : ∀ z ∈ zs, ∀ b, z.V.ownBlock = some b → b < wa.heap.size := fun z hz b hb => ((HA.out.lab z hz).lt b hb).2
  have hlw := LO.out
  have hos : OwnS w2 (w.heap.size + 1 + 1 + 1) w2.heap.size s A' k c' B' m d' zs := ⟨HZ.out, HR.out.ln, HR.out.lt, HN2.out.base (by simp) (by have := ZW.out; have := ZB.out; omega), own_base H2.out (by omega), fun b hb => ⟨fun h => by have := hts b hb; have := hla b h; omega, fun z hz h => by have := hts b hb; have := hlz z hz b h; omega, (hts b hb).2⟩⟩
  refine ⟨A', c', B', d', zs, rfl, ?_, ?_⟩
  · refine OwnS.base (lo := w.heap.size + 1 + 1 + 1) (hi := w2.heap.size) ?_ (by omega) (by simp)
    repeat (refine OwnS.set ?_ _ _ (by dsimp only; omega))
    exact hos
  · repeat (first | exact B2.out | refine Below.setCell ?_ (by dsimp only; omega) _)

end Go.Proofs.YtgajodcgedhikaaDoor

namespace Go.Proofs.YtgajodcgedhikaaDoor
open Go.RowKit
set_option linter.unusedVariables false
set_option linter.unusedSimpArgs false

theorem szIntS_left (A : Option Addr) (n c : Nat) (left : Int) (w : World) (hm : n ≤ maxLen) (h0 : 0 ≤ left) (h1 : left ≤ 1048576) :
    Calls Tryd.prog 50 #[.slice A n c, .int .i64 left] w fun x w' => ∃ r : Int, x = .returned (.int .i64 r) ∧ (r = -1 ∨ 0 ≤ r ∧ r = left - n) ∧ w' = w := by
  unfold maxLen at hm
  go_enter Tryd.func50, Tryd.ntmps50
  by_cases h : (n : Int) ≤ left
  · have hlt : ¬ (left - n < 0) := by omega
    go_wp2_with fail
    go_ret
    exact ⟨left - n, rfl, .inr ⟨by omega, rfl⟩, rfl⟩
  · have hlt : (left - n < 0) := by omega
    go_wp2_with fail
    go_ret
    exact ⟨-1, rfl, .inl rfl, rfl⟩

theorem szTieS_left (A : Option Addr) (n c : Nat) (left : Int) (w : World) (hm : n ≤ maxLen) (h0 : 0 ≤ left) (h1 : left ≤ 1048576) :
    Calls Tryd.prog 18 #[.slice A n c, .int .i64 left] w fun x w' => ∃ r : Int, x = .returned (.int .i64 r) ∧ (r = -1 ∨ 0 ≤ r ∧ r = left - n) ∧ w' = w := by
  unfold maxLen at hm
  go_enter Tryd.func18, Tryd.ntmps18
  by_cases h : (n : Int) ≤ left
  · have hlt : ¬ (left - n < 0) := by omega
    go_wp2_with fail
    go_ret
    exact ⟨left - n, rfl, .inr ⟨by omega, rfl⟩, rfl⟩
  · have hlt : (left - n < 0) := by omega
    go_wp2_with fail
    go_ret
    exact ⟨-1, rfl, .inl rfl, rfl⟩

set_option maxRecDepth 100000 in
set_option maxHeartbeats 4000000 in
theorem szNode_left (e : GN) (L : Option Addr) (c k : Nat) (left : Int) (w : World) (hk : e.lab.length = k) (hw : e.wf) (h0 : 0 ≤ left) (h1 : left ≤ 1048576) :
    Calls Tryd.prog 35 #[.agg #[.string e.name, .slice L k c, .int .i64 e.wat], .int .i64 left] w fun x w' => ∃ r : Int, x = .returned (.int .i64 r) ∧ (r = -1 ∨ 0 ≤ r ∧ r + k ≤ left ∧ e.name.size ≤ 1048576 ∧ k ≤ 1048576) ∧ Below w.heap.size w w' := by
  obtain ⟨nm, lab, wat⟩ := e
  obtain ⟨hw1, hw2, _⟩ := hw
  dsimp only at hk hw1 hw2 ⊢
  rw [hk] at hw2
  have HC := Lib.hid (fun l W h0 h1 => szIntS_left L k c l W hw2 h0 h1)
  unfold maxLen at hw1 hw2
  clear hk
  by_cases hn : (nm.size : Int) ≤ left
  · have hlt : ¬ (left - (nm.size : Int) < 0) := by omega
    go_enter Tryd.func35, Tryd.ntmps35
    go_wp2_with fail
    refine (HC.out (left - nm.size) _ (by omega) (by omega)).mono ?_
    rintro x w1 ⟨r, rfl, hr, rfl⟩
    rcases hr with rfl | ⟨hr0, hr1⟩
    · go_wp2_with fail
      go_ret
      exact ⟨-1, rfl, .inl rfl, (by repeat (first | exact Below.refl _ _ | refine below_step (by assumption) (by first | omega | (simp; done) | (simp; omega)) ?_ | refine below_drewN ?_ _ | refine Below.drew ?_ | refine Below.setCell ?_ (by first | omega | (simp; done) | (simp; omega)) _ | refine Below.alloc ?_ (by first | omega | (simp; done) | (simp; omega)) _))⟩
    · have hr2 : ¬ (r < 0) := by omega
      have HR := Lib.hid hr1
      have hr3 : r + k ≤ left := by omega
      have hk : k ≤ 1048576 := by omega
      clear hr1
      go_wp2_with fail
      go_ret
      exact ⟨r, rfl, .inr ⟨hr0, hr3, by omega, hk⟩, (by repeat (first | exact Below.refl _ _ | refine below_step (by assumption) (by first | omega | (simp; done) | (simp; omega)) ?_ | refine below_drewN ?_ _ | refine Below.drew ?_ | refine Below.setCell ?_ (by first | omega | (simp; done) | (simp; omega)) _ | refine Below.alloc ?_ (by first | omega | (simp; done) | (simp; omega)) _))⟩
  · have hlt : (left - (nm.size : Int) < 0) := by omega
    go_enter Tryd.func35, Tryd.ntmps35
    go_wp2_with fail
    go_ret
    exact ⟨-1, rfl, .inl rfl, (by repeat (first | exact Below.refl _ _ | refine below_step (by assumption) (by first | omega | (simp; done) | (simp; omega)) ?_ | refine below_drewN ?_ _ | refine Below.drew ?_ | refine Below.setCell ?_ (by first | omega | (simp; done) | (simp; omega)) _ | refine Below.alloc ?_ (by first | omega | (simp; done) | (simp; omega)) _))⟩

set_option maxRecDepth 100000 in
set_option maxHeartbeats 4000000 in
theorem szNodeS_left (ns : List GN) (A : Option Addr) (n c : Nat) (left : Int) (w : World) (hn : ns.length = n) (hm : n ≤ maxLen) (hw : ∀ e ∈ ns, e.wf) (hr : NodesAt w A ns) (h0 : 0 ≤ left) (h1 : left ≤ 1048576) :
    Calls Tryd.prog 17 #[.slice A n c, .int .i64 left] w fun x w' => ∃ r : Int, x = .returned (.int .i64 r) ∧ (r = -1 ∨ 0 ≤ r ∧ r ≤ left ∧ n ≤ 1048576 ∧ slJ ns n ≤ 1048576 ∧ ∀ e ∈ ns, e.name.size ≤ 1048576 ∧ e.lab.length ≤ 1048576) ∧ Below w.heap.size w w' := by
  unfold maxLen at hm
  have HR := Lib.hid hr
  have HL := Lib.hid hn
  have HW := Lib.hid hw
  clear hr hn hw
  go_enter Tryd.func17, Tryd.ntmps17
  by_cases h : (n : Int) ≤ left
  · have hlt : ¬ (left - n < 0) := by omega
    go_wp2_with fail
    go_loopw [5, 1] (fun i q wr => ∃ (j : Nat) (l : Int), j ≤ n ∧ i = .int .i64 j ∧ q = .int .i64 l ∧ 0 ≤ l ∧ l + slJ ns j ≤ left ∧ (∀ q, (h : q < j) → (hq : q < ns.length) → ns[q].name.size ≤ 1048576 ∧ ns[q].lab.length ≤ 1048576) ∧ Below w.heap.size w wr) (fun i _ _ => n - (intOf i).toNat)
    case atStart => exact ⟨0, left - n, Nat.zero_le _, rfl, rfl, by omega, by simp [slJ]; omega, fun q h => by omega, Below.refl _ _⟩
    case round =>
      obtain ⟨j, l, hj, rfl, rfl, hl0, hl1, hall, hbw⟩ := hrel
      have HA := Lib.hid hall
      clear hall
      by_cases hlt : j < n
      · have hl := HL.out
        obtain ⟨g, o, rfl, hg, hc⟩ := HR.out (by omega)
        have hc1 := hc j (by omega)
        have hw1 := HW.out ns[j] (List.getElem_mem _)
        have hlast : ∀ (P : GN → Prop), P (ns[j]'(by omega)) → (∀ q, (h : q < j) → (hq : q < ns.length) → P ns[q]) → ∀ q, (h : q < j + 1) → (hq : q < ns.length) → P ns[q] := fun P h1 h2 q h hq => by
          by_cases e : q = j
          · subst e; exact h1
          · exact h2 q (by omega) hq
        obtain ⟨e, he⟩ : ∃ e, e = ns[j]'(by omega) := ⟨_, rfl⟩
        rw [← he] at hc1 hw1
        simp only [← he] at hlast
        have HLAST := Lib.hid hlast
        have HSJ : Hid (slJ ns (j + 1) = slJ ns j + e.lab.length) := Lib.hid (by rw [slJ_at ns (by omega), he])
        obtain ⟨c0, c2, L, cl, c1, hrow⟩ := hc1
        obtain ⟨q, hq⟩ : ∃ q, q = e.lab.length := ⟨_, rfl⟩
        rw [← hq] at c1
        have HQ := Lib.hid hq.symm
        have k0 := (hbw.cell (p := ⟨g, o + j * 3, none⟩) hg).trans c0
        have k1 := (hbw.cell (p := ⟨g, o + j * 3 + 1, none⟩) hg).trans c1
        have k2 := (hbw.cell (p := ⟨g, o + j * 3 + 2, none⟩) hg).trans c2
        have HSN := Lib.hid (fun W => szNode_left e L cl q l W hq.symm hw1 hl0 (by omega))
        clear hc c0 c1 c2 he hl hrow hq hlast hw1
        go_wp2_with fail
        refine (HSN.out _).mono ?_
        rintro x w2 ⟨r, rfl, hr, b2⟩
        have B2 := Lib.hid (hbw.trans (b2.mono hbw.size))
        clear b2
        rcases hr with rfl | ⟨hr0, hr1, hr2, hr3⟩
        · go_wp2_with fail
          go_ret
          exact ⟨-1, rfl, .inl rfl, B2.out⟩
        · have hrn : ¬ (r < 0) := by omega
          go_wp2_with fail
          go_roundw
          case rel => exact ⟨j + 1, r, by omega, by go_num, rfl, hr0, by have := HSJ.out; have := HQ.out; omega, HLAST.out (fun e => e.name.size ≤ 1048576 ∧ e.lab.length ≤ 1048576) ⟨hr2, by rw [HQ.out]; exact hr3⟩ HA.out, B2.out⟩
          case measure => simp [intOf]; omega
      · go_wp2_with fail
        go_ret
        obtain rfl : j = n := by omega
        refine ⟨l, rfl, .inr ⟨hl0, by omega, by omega, by omega, fun e he => ?_⟩, hbw⟩
        obtain ⟨q, hq, rfl⟩ := List.getElem_of_mem he
        exact HA.out q (by have := HL.out; omega) hq
  · have hlt : (left - n < 0) := by omega
    go_wp2_with fail
    go_ret
    exact ⟨-1, rfl, .inl rfl, Below.refl _ _⟩

set_option maxRecDepth 100000 in
set_option maxHeartbeats 4000000 in
theorem szShow_left (s : GS) (A : Option Addr) (k c : Nat) (B : Option Addr) (m d : Nat) (left : Int) (w : World) (hk : k ≤ maxLen) (hm : m ≤ maxLen) (hw : ∀ e ∈ s.ns, e.wf) (hr : ShowAt w s A k B m) (h0 : 0 ≤ left) (h1 : left ≤ 1048576) :
    Calls Tryd.prog 6 #[shV A k c B m d s.h, .int .i64 left] w fun x w' => ∃ r : Int, x = .returned (.int .i64 r) ∧ (r = -1 ∨ 0 ≤ r ∧ r ≤ left ∧ ShB s) ∧ Below w.heap.size w w' := by
  have HN := Lib.hid (fun W h => szNodeS_left s.ns A k c left W hr.ln hk hw h h0 h1)
  have HT := Lib.hid (fun l W h0 h1 => szTieS_left B m d l W hm h0 h1)
  have HR := Lib.hid hr
  unfold maxLen at hk hm
  obtain ⟨h, hh⟩ : ∃ h, h = s.h := ⟨_, rfl⟩
  rw [← hh]
  clear hr hh hw
  unfold shV
  go_enter Tryd.func6, Tryd.ntmps6
  go_wp2_with fail
  refine (HN.out _ (HR.out.nodes.below (by repeat (first | exact Below.refl _ _ | refine below_step (by assumption) (by first | omega | (simp; done) | (simp; omega)) ?_ | refine below_drewN ?_ _ | refine Below.drew ?_ | refine Below.setCell ?_ (by first | omega | (simp; done) | (simp; omega)) _ | refine Below.alloc ?_ (by first | omega | (simp; done) | (simp; omega)) _)))).mono ?_
  rintro x w1 ⟨r, rfl, hr, b1⟩
  have c0 : w1.cell? ⟨w.heap.size, 0, none⟩ = some (.slice A k c) := (b1.cell (p := ⟨w.heap.size, 0, none⟩) (by first | omega | (simp; done) | (simp; omega))).trans (by first | assumption | go_simp)
  have c1 : w1.cell? ⟨w.heap.size, 1, none⟩ = some (.slice B m d) := (b1.cell (p := ⟨w.heap.size, 1, none⟩) (by first | omega | (simp; done) | (simp; omega))).trans (by first | assumption | go_simp)
  have s1 : w.heap.size < w1.heap.size := Nat.lt_of_lt_of_le (by first | omega | (simp; done) | (simp; omega)) b1.size
  have B1 := Lib.hid (show Below w.heap.size w w1 from (by repeat (first | exact Below.refl _ _ | refine below_step (by assumption) (by first | omega | (simp; done) | (simp; omega)) ?_ | refine below_drewN ?_ _ | refine Below.drew ?_ | refine Below.setCell ?_ (by first | omega | (simp; done) | (simp; omega)) _ | refine Below.alloc ?_ (by first | omega | (simp; done) | (simp; omega)) _)))
  clear b1
  rcases hr with rfl | ⟨hr0, hr1, hr2, hr4, hr3⟩
  · go_wp2_with fail
    go_ret
    exact ⟨-1, rfl, .inl rfl, B1.out⟩
  · have hrn : ¬ (r < 0) := by omega
    have H3 := Lib.hid hr3
    clear hr3
    go_wp2_with fail
    refine (HT.out r _ hr0 (by omega)).mono ?_
    rintro x w2 ⟨r2, rfl, hr, rfl⟩
    rcases hr with rfl | ⟨hq0, hq1⟩
    · go_wp2_with fail
      go_ret
      exact ⟨-1, rfl, .inl rfl, B1.out⟩
    · have hqn : ¬ (r2 < 0) := by omega
      have HQ : Hid (r2 ≤ left ∧ m ≤ 1048576) := Lib.hid ⟨by omega, by omega⟩
      clear hq1
      go_wp2_with fail
      go_ret
      exact ⟨r2, rfl, .inr ⟨hq0, HQ.out.1, ⟨by have := HR.out.ln; omega, by have := HR.out.lt; have := HQ.out.2; omega, H3.out, by rw [HR.out.ln]; exact hr4⟩⟩, B1.out⟩

end Go.Proofs.YtgajodcgedhikaaDoor
