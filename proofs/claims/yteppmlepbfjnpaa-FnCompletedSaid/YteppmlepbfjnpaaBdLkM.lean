/-
  WALKS of markLinkS (with what it leaves), heldLinkS, markSimple, heldSimple.
  WALKS of spec.MakeSimple and spec.MakeTimes: what they draw, in memory of its own.
  WALKS of impl.finiteBounds at the lower bound and of impl.EarliestTimes.
  WALKS of impl.finiteBounds at the upper bound and of impl.LatestTimes.
-/
import Derived.Test.YteppmlepbfjnpaaBdGrN
import Derived.Test.YteppmlepbfjnpaaBdIvOk
import Derived.Test.YteppmlepbfjnpaaSmD
import Derived.Test.YteppmlepbfjnpaaBdSmW
import Derived.Test.YteppmlepbfjnpaaBdPaC
import Derived.Deep.AppendLies
import Derived.BigQuiet
import Derived.Deep.QuietTactic
import Derived.Deep.Cut
import Derived.Deep.CutRange
namespace Go.Proofs.Yteppmlepbfjnpaa
open Go.RowKit Go.ChangeShapes Go.WideShapes Go.ChangeAt Go.WideMaps Go.WideElems
set_option linter.unusedVariables false
set_option linter.unusedSimpArgs false

theorem own_row4 {w : World} {B e n c : Nat} {A : Option Addr} {xs : List Value} (h : w.ownsRow B e 4 (.slice A n c) n xs) : RowAt w A xs := by
  intro hx
  have hl : xs.length = n * 4 := h.1
  obtain ⟨g, cap, hA, hBg, hg⟩ := h.form (by omega)
  obtain ⟨rfl, rfl⟩ : A = some ⟨g, 0, none⟩ ∧ c = cap := by simpa using hA
  exact ⟨g, 0, rfl, hg, fun j hj => by rw [Nat.zero_add]; exact (h.cellAt j (by omega)).trans (List.getElem?_eq_getElem hj)⟩

theorem imarks_four (k j : Nat) (xs : List Value) (h : j * 4 + 3 < xs.length) :
    (((((imarks k (j * 4) ++ xs.drop (j * 4)).set (j * 4) (.int .i64 ((k : Int) + 4 * j))).set (j * 4 + 1) (.int .i64 ((k : Int) + 4 * j + 1))).set (j * 4 + 2) (.int .i64 ((k : Int) + 4 * j + 1 + 1))).set (j * 4 + 3) (.int .i64 ((k : Int) + 4 * j + 1 + 1 + 1))) = imarks k ((j + 1) * 4) ++ xs.drop ((j + 1) * 4) := by
  rw [show (k : Int) + 4 * (j : Int) = ((k + j * 4 : Nat) : Int) from by omega, imarks_step k (j * 4) xs (by omega),
    show ((k + j * 4 : Nat) : Int) + 1 = ((k + (j * 4 + 1) : Nat) : Int) from by omega, imarks_step k (j * 4 + 1) xs (by omega),
    show ((k + (j * 4 + 1) : Nat) : Int) + 1 = ((k + (j * 4 + 1 + 1) : Nat) : Int) from by omega, show j * 4 + 2 = j * 4 + 1 + 1 from rfl, imarks_step k (j * 4 + 1 + 1) xs (by omega),
    show ((k + (j * 4 + 1 + 1) : Nat) : Int) + 1 = ((k + (j * 4 + 1 + 1 + 1) : Nat) : Int) from by omega, show j * 4 + 3 = j * 4 + 1 + 1 + 1 from rfl, imarks_step k (j * 4 + 1 + 1 + 1) xs (by omega),
    show j * 4 + 1 + 1 + 1 + 1 = (j + 1) * 4 from by omega]

set_option maxRecDepth 100000 in
set_option maxHeartbeats 2000000 in
theorem markLinkS_keeps (A : Option Addr) (n c B k : Nat) (xs : List Value) (w : World) (hn : k + 4 * n ≤ 1099511627776) (hown : w.ownsRow B 76 4 (.slice A n c) n xs) :
    Calls Try.prog 69 #[.slice A n c, .int .i64 k] w fun e w' => e = .returned (.int .i64 ((k : Int) + 4 * n)) ∧ w'.ownsRow B 76 4 (.slice A n c) n (imarks k (n * 4)) ∧ w.grownBy w' (Value.slice A n c).ownBlock := by
  have HO := Lib.hid hown
  have hl0 : xs.length = n * 4 := hown.1
  have HL := Lib.hid hl0
  clear hown hl0
  go_enter Try.func69, Try.ntmps69
  go_wp2
  go_loopw [1, 5] (fun kk i wr => ∃ j : Nat, j ≤ n ∧ i = .int .i64 j ∧ kk = .int .i64 ((k : Int) + 4 * j) ∧ wr.ownsRow B 76 4 (.slice A n c) n (imarks k (j * 4) ++ xs.drop (j * 4)) ∧ w.grownBy wr (Value.slice A n c).ownBlock) (fun _ i _ => n - (intOf i).toNat)
  case atStart => exact ⟨0, Nat.zero_le _, rfl, by simp, by simpa [imarks] using HO.out, World.grownBy.refl _ _⟩
  case round =>
    obtain ⟨j, hj, rfl, rfl, hown, hgr⟩ := hrel
    by_cases hlt : j < n
    · obtain ⟨g, cap, hA, hBg, hg⟩ := hown.form (by omega)
      obtain ⟨rfl, rfl⟩ : A = some ⟨g, 0, none⟩ ∧ c = cap := by simpa using hA
      clear hA
      have hlen : (imarks k (j * 4) ++ xs.drop (j * 4)).length = n * 4 := hown.1
      obtain ⟨y0, hy0⟩ : ∃ y, wr.cell? ⟨g, j * 4, none⟩ = some y := ⟨_, (hown.cellAt (j * 4) (by omega)).trans (List.getElem?_eq_getElem (by omega))⟩
      obtain ⟨y1, hy1⟩ : ∃ y, wr.cell? ⟨g, j * 4 + 1, none⟩ = some y := ⟨_, (hown.cellAt (j * 4 + 1) (by omega)).trans (List.getElem?_eq_getElem (by omega))⟩
      obtain ⟨y2, hy2⟩ : ∃ y, wr.cell? ⟨g, j * 4 + 2, none⟩ = some y := ⟨_, (hown.cellAt (j * 4 + 2) (by omega)).trans (List.getElem?_eq_getElem (by omega))⟩
      obtain ⟨y3, hy3⟩ : ∃ y, wr.cell? ⟨g, j * 4 + 3, none⟩ = some y := ⟨_, (hown.cellAt (j * 4 + 3) (by omega)).trans (List.getElem?_eq_getElem (by omega))⟩
      have f0 := hown.frozenAt (j * 4)
      have f1 := hown.frozenAt (j * 4 + 1)
      have f2 := hown.frozenAt (j * 4 + 2)
      have f3 := hown.frozenAt (j * 4 + 3)
      have h1 := hown.stored (j * 4) (.int .i64 ((k : Int) + 4 * j))
      have h2 := h1.1.stored (j * 4 + 1) (.int .i64 ((k : Int) + 4 * j + 1))
      have h3 := h2.1.stored (j * 4 + 2) (.int .i64 ((k : Int) + 4 * j + 1 + 1))
      have h4 := h3.1.stored (j * 4 + 3) (.int .i64 ((k : Int) + 4 * j + 1 + 1 + 1))
      have HS := Lib.hid h4.1
      have HG := Lib.hid (grown_trans (grown_trans (grown_trans (grown_trans hgr h1.2) h2.2) h3.2) h4.2)
      clear hown hgr h1 h2 h3 h4 hlen
      go_wp2
      go_roundw
      case rel =>
        have hl := HL.out
        have h1 := HS.out
        rw [imarks_four k j xs (by omega)] at h1
        exact ⟨j + 1, by omega, by go_num, by rw [show ((j + 1 : Nat) : Int) = (j : Int) + 1 from by omega, show (k : Int) + 4 * ((j : Int) + 1) = (k : Int) + 4 * j + 1 + 1 + 1 + 1 from by omega], h1, HG.out⟩
      case measure => simp [intOf]; omega
    · go_wp2
      go_ret
      have hjn : j = n := by omega
      subst hjn
      have hl := HL.out
      refine ⟨rfl, ?_, hgr⟩
      simpa [← hl] using hown

set_option maxRecDepth 100000 in
set_option maxHeartbeats 1000000 in
theorem heldLinkS_any (A : Option Addr) (n c k : Nat) (w : World) (hn : k + 4 * n ≤ 1099511627776) (hrow : RowAt w A (imarks k (n * 4))) :
    Calls Try.prog 70 #[.slice A n c, .int .i64 k] w fun e w' => e = .returned (.int .i64 ((k : Int) + 4 * n)) ∧ w' = w := by
  have HO := Lib.hid hrow
  clear hrow
  go_enter Try.func70, Try.ntmps70
  go_wp2
  go_loop [1, 5] (fun kk i => ∃ j : Nat, j ≤ n ∧ i = .int .i64 j ∧ kk = .int .i64 ((k : Int) + 4 * j)) (fun _ i => n - (intOf i).toNat)
  case atStart => exact ⟨0, Nat.zero_le _, rfl, by simp⟩
  case round =>
    obtain ⟨j, hj, rfl, rfl⟩ := hrel
    by_cases hlt : j < n
    · obtain ⟨g, o, rfl, hg, hc⟩ := HO.out (by rw [imarks_length]; omega)
      have k0 := (hc (j * 4) (by rw [imarks_length]; omega)).trans (by rw [imarks_at])
      have k1 := (hc (j * 4 + 1) (by rw [imarks_length]; omega)).trans (by rw [imarks_at])
      have k2 := (hc (j * 4 + 2) (by rw [imarks_length]; omega)).trans (by rw [imarks_at])
      have k3 := (hc (j * 4 + 3) (by rw [imarks_length]; omega)).trans (by rw [imarks_at])
      clear hc
      rw [show ((k + j * 4 : Nat) : Int) = (k : Int) + 4 * j from by omega] at k0
      rw [show ((k + (j * 4 + 1) : Nat) : Int) = (k : Int) + 4 * j + 1 from by omega, show o + (j * 4 + 1) = o + j * 4 + 1 from by omega] at k1
      rw [show ((k + (j * 4 + 2) : Nat) : Int) = (k : Int) + 4 * j + 1 + 1 from by omega, show o + (j * 4 + 2) = o + j * 4 + 2 from by omega] at k2
      rw [show ((k + (j * 4 + 3) : Nat) : Int) = (k : Int) + 4 * j + 1 + 1 + 1 from by omega, show o + (j * 4 + 3) = o + j * 4 + 3 from by omega] at k3
      have x3 : (((k : Int) + 4 * j + 1 + 1 + 1) != ((k : Int) + 4 * j + 1 + 1 + 1)) = false := by simp
      have x0 : (((k : Int) + 4 * j) != ((k : Int) + 4 * j)) = false := by simp
      have x1 : (((k : Int) + 4 * j + 1) != ((k : Int) + 4 * j + 1)) = false := by simp
      have x2 : (((k : Int) + 4 * j + 1 + 1) != ((k : Int) + 4 * j + 1 + 1)) = false := by simp
      go_wp2
      go_round
      case rel => exact ⟨j + 1, by omega, by go_num, by rw [show ((j + 1 : Nat) : Int) = (j : Int) + 1 from by omega, show (k : Int) + 4 * ((j : Int) + 1) = (k : Int) + 4 * j + 1 + 1 + 1 + 1 from by omega]⟩
      case measure => simp [intOf]; omega
    · go_wp2
      go_ret
      have hjn : j = n := by omega
      subst hjn
      exact ⟨rfl, rfl⟩

set_option maxRecDepth 100000 in
set_option maxHeartbeats 1000000 in
theorem markSimple_any (n : Int) (A : Option Addr) (k c B q : Nat) (xs : List Value) (w : World) (hn : q + 4 * k ≤ 1099511627776) (hown : w.ownsRow B 76 4 (.slice A k c) k xs) :
    Calls Try.prog 32 #[grV n A k c, .int .i64 q] w fun e w' => e = .returned (.int .i64 ((q : Int) + 4 * k)) ∧ w'.ownsRow B 76 4 (.slice A k c) k (imarks q (k * 4)) ∧ (w.alloc (.cells #[.int .i64 n, .slice A k c] 25)).grownBy w' (Value.slice A k c).ownBlock := by
  unfold grV
  have HC := Lib.hid (markLinkS_keeps A k c B q xs (w.alloc (.cells #[.int .i64 n, .slice A k c] 25)) hn (hown.alloc _))
  clear hown
  go_enter Try.func32, Try.ntmps32
  go_wp2_with (go_at_call 69; refine HC.out.mono ?_; rintro e w1 ⟨rfl, h1, g1⟩)
  go_ret
  exact ⟨rfl, h1, g1⟩

set_option maxRecDepth 100000 in
set_option maxHeartbeats 1000000 in
theorem heldSimple_any (n : Int) (A : Option Addr) (k c q : Nat) (w : World) (hn : q + 4 * k ≤ 1099511627776) (hrow : RowAt w A (imarks q (k * 4))) :
    Calls Try.prog 34 #[grV n A k c, .int .i64 q] w fun e w' => e = .returned (.int .i64 ((q : Int) + 4 * k)) ∧ Below w.heap.size w w' := by
  unfold grV
  have HC := Lib.hid (fun W h => heldLinkS_any A k c q W hn h)
  have HR := Lib.hid hrow
  clear hrow
  have hlt : ¬ ((q : Int) + 4 * k < 0) := by omega
  go_enter Try.func34, Try.ntmps34
  go_wp2_with (go_at_call 70; refine (HC.out _ (HR.out.below (by repeat (first | exact Below.refl _ _ | refine below_step (by assumption) (by first | omega | (simp; done) | (simp; omega)) ?_ | refine below_drewN ?_ _ | refine Below.drew ?_ | refine Below.setCell ?_ (by first | omega | (simp; done) | (simp; omega)) _ | refine Below.alloc ?_ (by first | omega | (simp; done) | (simp; omega)) _)))).mono ?_; rintro e w1 ⟨rfl, rfl⟩)
  go_ret
  exact ⟨rfl, (by repeat (first | exact Below.refl _ _ | refine below_step (by assumption) (by first | omega | (simp; done) | (simp; omega)) ?_ | refine below_drewN ?_ _ | refine Below.drew ?_ | refine Below.setCell ?_ (by first | omega | (simp; done) | (simp; omega)) _ | refine Below.alloc ?_ (by first | omega | (simp; done) | (simp; omega)) _))⟩

end Go.Proofs.Yteppmlepbfjnpaa

namespace Go.Proofs.Yteppmlepbfjnpaa
open Go.RowKit
set_option linter.unusedVariables false
set_option linter.unusedSimpArgs false

set_option maxRecDepth 100000 in
set_option maxHeartbeats 1000000 in
theorem MakeSimple_any (A : Option Addr) (n c : Nat) (w : World) (hm : n ≤ 1048576) (hby : Bytes w w.heap.size A n) :
    Calls Try.prog 11 #[.slice A n c] w fun e w' =>
      ∃ (N : Nat) (es : List GL) (B : Option Addr) (k cb : Nat), e = .returned (grV N B k cb) ∧ 2 ≤ N ∧ N ≤ 5 ∧ es.length = k ∧ k ≤ 7 ∧ DrS N es ∧ w'.ownsRow w.heap.size 76 4 (.slice B k cb) k (cellsL es) ∧ Below w.heap.size w w' := by
  have b0 : Below w.heap.size w (w.alloc (.cells #[.int .i64 0, .slice none 0 0] 25)) := (Below.refl _ _).alloc (Nat.le_refl _) _
  have s0 : (w.alloc (.cells #[.int .i64 0, .slice none 0 0] 25)).heap.size = w.heap.size + 1 := by simp
  have r0 : (w.alloc (.cells #[.int .i64 0, .slice none 0 0] 25)).heap[w.heap.size]? = some (.cells #[.int .i64 0, .slice none 0 0] 25 (0, 0)) := heap_alloc_new w _
  have hb0 := (hby.below b0).fresh b0
  have hn := l01New_any A n c (w.alloc (.cells #[.int .i64 0, .slice none 0 0] 25)) hm hb0
  obtain ⟨w0, hw0⟩ : ∃ W, W = w.alloc (.cells #[.int .i64 0, .slice none 0 0] 25) := ⟨_, rfl⟩
  rw [← hw0] at b0 s0 r0 hb0 hn
  rw [s0] at hn
  have HBY := Lib.hid hb0
  have HN := Lib.hid hn
  have HW := Lib.hid hw0
  have R0 := Lib.hid r0
  have S0 := Lib.hid s0
  clear hby hw0 r0 hb0 hn s0
  go_enter Try.func11, Try.ntmps11
  go_wp2_with fail
  have hw0 := HW.out
  subst hw0
  refine HN.out.mono ?_
  rintro e w1 ⟨rfl, hc1, b1⟩
  have HD := Lib.hid (l05Draw_any _ A n c w1 hm hc1 (by have := HBY.out.below (by rw [S0.out]; exact b1); rw [S0.out] at this; exact this))
  have HB1 := Lib.hid b1
  have hl1 := hc1.lt
  clear hc1 b1 HN
  go_wp2_with fail
  refine HD.out.mono ?_
  rintro e w2 ⟨N, es, B, k, cb, rfl, h0, h1, h2, h3, h4, ho, hg⟩
  have b2 := HB1.out.grown hg (by omega) (fun k hk => by cases hk; exact Nat.le_refl _)
  have hof1 := own_base (B' := w.heap.size + 1) ho (by omega)
  have r2 : w2.heap[w.heap.size]? = some (.cells #[.int .i64 0, .slice none 0 0] 25 (0, 0)) := (b2.block _ (by omega)).trans R0.out
  have c0 : w2.cell? ⟨w.heap.size, 0, none⟩ = some (.int .i64 0) := by simp [World.cell?, r2]
  have c1 : w2.cell? ⟨w.heap.size, 1, none⟩ = some (.slice none 0 0) := by simp [World.cell?, r2]
  have z0 : w2.frozen? ⟨w.heap.size, 0, none⟩ = false := by simp [World.frozen?, r2]
  have z1 : w2.frozen? ⟨w.heap.size, 1, none⟩ = false := by simp [World.frozen?, r2]
  have b02 : Below w.heap.size w w2 := b0.trans (b2.mono (by omega))
  clear ho hg r2 HD HB1 HBY R0 S0
  simp only [grV]
  go_wp2
  refine bodyPost_ret (v := grV N B k cb) (by first | (simp [results, Try.results11, go_sem, grV]; done) | simp [*, results, Try.results11, go_sem, grV]) rfl ⟨N, es, B, k, cb, rfl, h0, h1, h2, h3, h4, ?_, ?_⟩
  · refine own_base (B := w.heap.size + 1) ?_ (by omega)
    repeat (refine own_set ?_ _ _ (by dsimp only; omega))
    exact hof1
  · exact (b02.setCell (p := ⟨w.heap.size, 0, none⟩) (Nat.le_refl _) _).setCell (p := ⟨w.heap.size, 1, none⟩) (Nat.le_refl _) _

/-- Times that are drawn. -/
def DrT (N : Nat) (ts : List Int) : Prop := ts.length = N ∧ ts[0]? = some 0 ∧ ∀ x ∈ ts, 0 ≤ x ∧ x ≤ 5
theorem DrT.snoc {j : Nat} {ts : List Int} {x : Nat} (h : DrT j ts) (hx : x < 6) : DrT (j + 1) (ts ++ [(x : Int)]) := by
  obtain ⟨h1, h2, h3⟩ := h
  refine ⟨by rw [List.length_append, h1]; rfl, ?_, fun y hy => ?_⟩
  · rw [List.getElem?_append_left (by rcases ts with _ | ⟨a, l⟩ <;> simp at h2 ⊢)]; exact h2
  · rcases List.mem_append.1 hy with h | h
    · exact h3 y h
    · simp at h; omega
def sliceLen : Value → Nat
  | .slice _ k _ => k
  | _ => 0
theorem sliceLen_slice (A : Option Addr) (k c : Nat) : sliceLen (.slice A k c) = k := rfl

set_option maxRecDepth 100000 in
set_option maxHeartbeats 4000000 in
theorem MakeTimes_any (m N : Nat) (hN1 : 1 ≤ N) (hN8 : N ≤ 8) (A : Option Addr) (n c : Nat) (w : World) (hm : n ≤ 1048576) (hm2 : m ≤ 65536) (hby : Bytes w w.heap.size A n) :
    Calls Try.prog 20 #[.slice A n c, .int .i64 m, .int .i64 N] w fun e w' =>
      ∃ (ts : List Int) (B : Option Addr) (cb : Nat), e = .returned (.slice B N cb) ∧ DrT N ts ∧ w'.ownsRow w.heap.size 3 1 (.slice B N cb) N (ts.map intV) ∧ Below w.heap.size w w' := by
  have HN := Lib.hid (l29New_any m A n c w hm hm2 hby)
  have HBY := Lib.hid hby
  obtain ⟨i1, hii, hy0, hy1, hy2⟩ := info_parts Try.info3
  clear hby
  go_enter Try.func20, Try.ntmps20
  go_wp2_with fail
  refine HN.out.mono ?_
  rintro e w1 ⟨rfl, hc1, b1⟩
  obtain ⟨w2, hw2⟩ : ∃ W, W = w1.alloc (.cells #[.int .i64 0] 3) := ⟨_, rfl⟩
  have hl1 := hc1.lt
  have b2 : Below w.heap.size w w2 := by rw [hw2]; exact b1.alloc b1.size _
  have hc2 : Cur w2 w.heap.size A n c := by rw [hw2]; exact hc1.alloc _
  have ho2 : w2.ownsRow (w.heap.size + 1) 3 1 (.slice (some ⟨w1.heap.size, 0, none⟩) 1 1) 1 (([0] : List Int).map intV) := by rw [hw2]; exact World.ownsRow_lit w1 #[.int .i64 0] 1 (by omega) (by unfold maxLen; omega) rfl
  have HC2 := Lib.hid hc2
  have HO2 := Lib.hid ho2
  have HB2 := Lib.hid b2
  go_upto_region 3 with (fail)
  rw [← hw2]
  clear hw2 hc1 b1 hc2 ho2 b2
  go_loopw [8] (fun tt wr => ∃ (j : Nat) (ts : List Int) (A2 : Option Addr) (d2 : Nat), tt = .slice A2 j d2 ∧ 1 ≤ j ∧ j ≤ N ∧ DrT j ts ∧ wr.ownsRow (w.heap.size + 1) 3 1 (.slice A2 j d2) j (ts.map intV) ∧ Cur wr w.heap.size A n c ∧ Below w.heap.size w wr) (fun tt _ => N - sliceLen tt)
  case atStart => exact ⟨1, [0], _, _, rfl, by omega, by omega, ⟨rfl, rfl, fun x hx => by simp at hx; omega⟩, HO2.out, HC2.out, HB2.out⟩
  case round =>
    obtain ⟨j, ts, A2, d2, rfl, hj1, hjN, hdt, hown, hcur, hbw⟩ := hrel
    have HDT := Lib.hid hdt
    have HOW := Lib.hid hown
    by_cases hlt : j < N
    · have hg0 := hcur.lt
      have hb6 := l01Below_small 6 w.heap.size A n c wr (by decide) (by decide) hm hcur (HBY.out.below hbw)
      rw [show ((6 : Nat) : Int) = 6 from rfl] at hb6
      have HB6 := Lib.hid hb6
      have HBW := Lib.hid hbw
      clear hb6 hdt hown hcur hbw
      go_wp2_with fail
      refine HB6.out.mono ?_
      rintro e w3 ⟨x, rfl, hx, hc3, hg3⟩
      have ho3 : w3.ownsRow (w.heap.size + 1) 3 1 (.slice A2 j d2) j (ts.map intV) := HOW.out.kept hg3 (by
        cases hb : (Value.slice A2 j d2).ownBlock with
        | none => exact .inl rfl
        | some q => exact .inr (fun e => by injection e with e; have := (HOW.out.lt q hb).1; omega))
      have HO3 := Lib.hid ho3
      have HC3 := Lib.hid hc3
      have HB3 := Lib.hid (HBW.out.grown hg3 HBW.out.size (fun k hk => by cases hk; exact Nat.le_refl _))
      have hsz3 : w.heap.size < w3.heap.size := hc3.lt
      clear ho3 hc3 hg3
      go_wp2_with (at_builtin; refine wpList_append_lies _ rfl _ _ 33 rfl (w.heap.size + 1) 3 i1 (.int .i64 0) 1 8 Try.underlying33 hii hy0 hy1 hy2 rfl (by decide) _ _ _ rfl (HO3.out.alloc _) ⟨_, 0, none⟩ 1 1 _ rfl rfl (World.news_of_block (heap_made _ _ _ (by first | rfl | omega | (simp; done) | (simp; omega)))) (one_c1 _) (by decide) (by unfold maxLen; omega) (by omega) (by first | omega | (simp; done) | (simp; omega)) _ rfl ?_)
      intro g6 cap w6 ho6 hg6 hat6 hl6
      have lt3 := HO3.out.lt
      have ng : (Value.slice A2 j d2).ownBlock ≠ some w.heap.size := fun h => by have := (lt3 _ h).1; omega
      have hba : Below w3.heap.size w3 (w3.alloc (.cells #[.int .i64 x] 3)) := (Below.refl _ _).alloc (Nat.le_refl _) _
      have HC6 := Lib.hid ((HC3.out.alloc (.cells #[.int .i64 x] 3)).kept (hg6.block w.heap.size (by have := hba.size; omega) (fun e => ng e.symm)))
      have HB6b := Lib.hid ((HB3.out.alloc HB3.out.size (.cells #[.int .i64 x] 3)).grown hg6 (by have := hba.size; omega) (fun r hr => by have := (lt3 _ hr).1; omega))
      have HO6 : Hid (w6.ownsRow (w.heap.size + 1) 3 1 (.slice (some ⟨g6, 0, none⟩) (j + 1) cap) (j + 1) ((ts ++ [(x : Int)]).map intV)) := Lib.hid (by simpa [intV] using ho6)
      clear ho6 hg6 hat6 hl6 lt3 ng hba
      go_wp2_with fail
      go_roundw
      case rel => exact ⟨j + 1, ts ++ [(x : Int)], some ⟨g6, 0, none⟩, cap, rfl, by omega, by omega, HDT.out.snoc hx, HO6.out, HC6.out, HB6b.out⟩
      case measure => simp [sliceLen]; omega
    · have hjN2 : j = N := by omega
      subst hjN2
      clear hdt hown
      go_wp2_with fail
      go_ret
      exact ⟨ts, A2, d2, rfl, HDT.out, own_base HOW.out (by omega), hbw⟩

end Go.Proofs.Yteppmlepbfjnpaa

namespace Go.Proofs.Yteppmlepbfjnpaa
open Go.RowKit
set_option linter.unusedVariables false
set_option linter.unusedSimpArgs false

theorem ear_form (n : Int) (es : List GL) (N : Nat) (h : dN n es = N) : earR n es = if (List.range N).all (earG n es) then (earL n es N, decide (0 < N)) else ([], false) := by
  cases hc : consR n es with
  | true =>
    have hr := okS_rng (consR_ok hc)
    rw [dN_yes hc] at h
    have hm : min n.toNat 8 = N := by omega
    unfold earR
    rw [hm]
  | false =>
    rw [dN_no hc] at h
    obtain rfl : N = 0 := by omega
    have hb : ∀ i : Nat, earG n es i = false := fun i => by unfold earG wB; rw [hc]; rfl
    have h2 : (List.range 0).all (earG n es) = true := rfl
    rw [if_pos h2]
    by_cases h0 : min n.toNat 8 = 0
    · unfold earR; rw [h0]; rfl
    · rw [earR_bad (j := 0) (by omega) (hb 0)]
      unfold earL; rfl
theorem ear_badN {n : Int} {es : List GL} {N j : Nat} (h : dN n es = N) (hj : j < N) (hg : earG n es j = false) : earR n es = ([], false) := by
  rw [ear_form n es N h, if_neg]
  have : (List.range N).all (earG n es) = false := by rw [List.all_eq_false]; exact ⟨j, by simp; omega, by simp [hg]⟩
  rw [this]; simp
theorem ear_goodN {n : Int} {es : List GL} {N : Nat} (h : dN n es = N) (hg : (List.range N).all (earG n es) = true) : earR n es = (earL n es N, decide (0 < N)) := by
  rw [ear_form n es N h, if_pos hg]

end Go.Proofs.Yteppmlepbfjnpaa

namespace Go.Proofs.Yteppmlepbfjnpaa
open Go.RowKit
set_option linter.unusedVariables false
set_option linter.unusedSimpArgs false

theorem lat_form (n : Int) (es : List GL) (N : Nat) (h : dN n es = N) : latR n es = if (List.range N).all (latG n es) then (latL n es N, decide (0 < N)) else ([], false) := by
  cases hc : consR n es with
  | true =>
    have hr := okS_rng (consR_ok hc)
    rw [dN_yes hc] at h
    have hm : min n.toNat 8 = N := by omega
    unfold latR
    rw [hm]
  | false =>
    rw [dN_no hc] at h
    obtain rfl : N = 0 := by omega
    have hb : ∀ i : Nat, latG n es i = false := fun i => by unfold latG wB; rw [hc]; rfl
    have h2 : (List.range 0).all (latG n es) = true := rfl
    rw [if_pos h2]
    by_cases h0 : min n.toNat 8 = 0
    · unfold latR; rw [h0]; rfl
    · rw [latR_bad (j := 0) (by omega) (hb 0)]
      unfold latL; rfl
theorem lat_badN {n : Int} {es : List GL} {N j : Nat} (h : dN n es = N) (hj : j < N) (hg : latG n es j = false) : latR n es = ([], false) := by
  rw [lat_form n es N h, if_neg]
  have : (List.range N).all (latG n es) = false := by rw [List.all_eq_false]; exact ⟨j, by simp; omega, by simp [hg]⟩
  rw [this]; simp
theorem lat_goodN {n : Int} {es : List GL} {N : Nat} (h : dN n es = N) (hg : (List.range N).all (latG n es) = true) : latR n es = (latL n es N, decide (0 < N)) := by
  rw [lat_form n es N h, if_pos hg]

end Go.Proofs.Yteppmlepbfjnpaa
