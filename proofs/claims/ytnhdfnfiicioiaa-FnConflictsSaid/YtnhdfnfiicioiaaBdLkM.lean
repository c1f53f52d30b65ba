/-
  WALKS of markLinkS (with what it leaves), heldLinkS, markSimple, heldSimple.
  WALKS of markEdgeS (with what it leaves) and heldEdgeS.
  WALKS of the draws: l01New, l01Byte, l01Below, l01Str: what is drawn lies in its range; a draw writes into its own cursor alone.
  A slice of bytes that comes in.
  WALKS of the draws of intervals.
-/
import Derived.Test.YtnhdfnfiicioiaaBdSmT
import Derived.Test.YtnhdfnfiicioiaaBdIvOk
import Derived.Test.YtnhdfnfiicioiaaProg
import Derived.Test.YtnhdfnfiicioiaaBdDig
import Derived.Laws.BitsAllLaws
import Derived.Laws.BitsLemmas
import Derived.Deep.QuietTactic
import Derived.BigQuiet
import Derived.ProofKit
import Derived.WalkKit
import Derived.WalkSpells
import Derived.WalkLawsBesides
import Derived.Deep.RegionWith
import Derived.Deep.RegionHeld3
import Derived.Lib.Hide
import Derived.Below
namespace Go.Proofs.Ytnhdfnfiicioiaa
open Go.RowKit Go.ChangeShapes Go.WideShapes Go.ChangeAt Go.WideMaps Go.WideElems
set_option linter.unusedVariables false
set_option linter.unusedSimpArgs false

theorem own_row4 {w : World} {B e n c : Nat} {A : Option Addr} {xs : List Value} (h : w.ownsRow B e 4 (.slice A n c) n xs) : RowAt w A xs := by
  intro hx
  have hl : xs.length = n * 4 := h.1
  obtain ⟨g, cap, hA, hBg, hg⟩ := h.form (by omega)
  obtain ⟨rfl, rfl⟩ : A = some ⟨g, 0, none⟩ ∧ c = cap := by simpa using hA
  exact ⟨g, 0, rfl, hg, fun j hj => by rw [Nat.zero_add]; exact (h.cellAt j (by omega)).trans (List.getElem?_eq_getElem hj)⟩

theorem imarks_four (k j : Nat) (xs : List Value) (h : j * 4 + 3 < xs.length) :
    (((((imarks k (j * 4) ++ xs.drop (j * 4)).set (j * 4) (.int .i64 ((k : Int) + 4 * j))).set (j * 4 + 1) (.int .i64 ((k : Int) + 4 * j + 1))).set (j * 4 + 2) (.int .i64 ((k : Int) + 4 * j + 1 + 1))).set (j * 4 + 3) (.int .i64 ((k : Int) + 4 * j + 1 + 1 + 1))) = imarks k ((j + 1) * 4) ++ xs.drop ((j + 1) * 4) := by
  rw [show (k : Int) + 4 * (j : Int) = ((k + j * 4 : Nat) : Int) from by omega, imarks_step k (j * 4) xs (by omega),
    show ((k + j * 4 : Nat) : Int) + 1 = ((k + (j * 4 + 1) : Nat) : Int) from by omega, imarks_step k (j * 4 + 1) xs (by omega),
    show ((k + (j * 4 + 1) : Nat) : Int) + 1 = ((k + (j * 4 + 1 + 1) : Nat) : Int) from by omega, show j * 4 + 2 = j * 4 + 1 + 1 from rfl, imarks_step k (j * 4 + 1 + 1) xs (by omega),
    show ((k + (j * 4 + 1 + 1) : Nat) : Int) + 1 = ((k + (j * 4 + 1 + 1 + 1) : Nat) : Int) from by omega, show j * 4 + 3 = j * 4 + 1 + 1 + 1 from rfl, imarks_step k (j * 4 + 1 + 1 + 1) xs (by omega),
    show j * 4 + 1 + 1 + 1 + 1 = (j + 1) * 4 from by omega]

set_option maxRecDepth 100000 in
set_option maxHeartbeats 2000000 in
theorem markLinkS_keeps (A : Option Addr) (n c B k : Nat) (xs : List Value) (w : World) (hn : k + 4 * n ≤ 1099511627776) (hown : w.ownsRow B 42 4 (.slice A n c) n xs) :
    Calls Try.prog 77 #[.slice A n c, .int .i64 k] w fun e w' => e = .returned (.int .i64 ((k : Int) + 4 * n)) ∧ w'.ownsRow B 42 4 (.slice A n c) n (imarks k (n * 4)) ∧ w.grownBy w' (Value.slice A n c).ownBlock := by
  have HO := Lib.hid hown
  have hl0 : xs.length = n * 4 := hown.1
  have HL := Lib.hid hl0
  clear hown hl0
  go_enter Try.func77, Try.ntmps77
  go_wp2
  go_loopw [1, 5] (fun kk i wr => ∃ j : Nat, j ≤ n ∧ i = .int .i64 j ∧ kk = .int .i64 ((k : Int) + 4 * j) ∧ wr.ownsRow B 42 4 (.slice A n c) n (imarks k (j * 4) ++ xs.drop (j * 4)) ∧ w.grownBy wr (Value.slice A n c).ownBlock) (fun _ i _ => n - (intOf i).toNat)
  case atStart => exact ⟨0, Nat.zero_le _, rfl, by simp, by simpa [imarks] using HO.out, World.grownBy.refl _ _⟩
  case round =>
    obtain ⟨j, hj, rfl, rfl, hown, hgr⟩ := hrel
    by_cases hlt : j < n
    · obtain ⟨g, cap, hA, hBg, hg⟩ := hown.form (by omega)
      obtain ⟨rfl, rfl⟩ : A = some ⟨g, 0, none⟩ ∧ c = cap := by simpa using hA
      clear hA
      have hlen : (imarks k (j * 4) ++ xs.drop (j * 4)).length = n * 4 := hown.1
      obtain ⟨y0, hy0⟩ : ∃ y, wr.cell? ⟨g, j * 4, none⟩ = some y := ⟨_, (hown.cellAt (j * 4) (by omega)).trans (List.getElem?_eq_getElem (by omega))⟩
      obtain ⟨y1, hy1⟩ : ∃ y, wr.cell? ⟨g, j * 4 + 1, none⟩ = some y := ⟨_, (hown.cellAt (j * 4 + 1) (by omega)).trans (List.getElem?_eq_getElem (by omega))⟩
      obtain ⟨y2, hy2⟩ : ∃ y, wr.cell? ⟨g, j * 4 + 2, none⟩ = some y := ⟨_, (hown.cellAt (j * 4 + 2) (by omega)).trans (List.getElem?_eq_getElem (by omega))⟩
      obtain ⟨y3, hy3⟩ : ∃ y, wr.cell? ⟨g, j * 4 + 3, none⟩ = some y := ⟨_, (hown.cellAt (j * 4 + 3) (by omega)).trans (List.getElem?_eq_getElem (by omega))⟩
      have f0 := hown.frozenAt (j * 4)
      have f1 := hown.frozenAt (j * 4 + 1)
      have f2 := hown.frozenAt (j * 4 + 2)
      have f3 := hown.frozenAt (j * 4 + 3)
      have h1 := hown.stored (j * 4) (.int .i64 ((k : Int) + 4 * j))
      have h2 := h1.1.stored (j * 4 + 1) (.int .i64 ((k : Int) + 4 * j + 1))
      have h3 := h2.1.stored (j * 4 + 2) (.int .i64 ((k : Int) + 4 * j + 1 + 1))
      have h4 := h3.1.stored (j * 4 + 3) (.int .i64 ((k : Int) + 4 * j + 1 + 1 + 1))
      have HS := Lib.hid h4.1
      have HG := Lib.hid (grown_trans (grown_trans (grown_trans (grown_trans hgr h1.2) h2.2) h3.2) h4.2)
      clear hown hgr h1 h2 h3 h4 hlen
      go_wp2
      go_roundw
      case rel =>
        have hl := HL.out
        have h1 := HS.out
        rw [imarks_four k j xs (by omega)] at h1
        exact ⟨j + 1, by omega, by go_num, by rw [show ((j + 1 : Nat) : Int) = (j : Int) + 1 from by omega, show (k : Int) + 4 * ((j : Int) + 1) = (k : Int) + 4 * j + 1 + 1 + 1 + 1 from by omega], h1, HG.out⟩
      case measure => simp [intOf]; omega
    · go_wp2
      go_ret
      have hjn : j = n := by omega
      subst hjn
      have hl := HL.out
      refine ⟨rfl, ?_, hgr⟩
      simpa [← hl] using hown

set_option maxRecDepth 100000 in
set_option maxHeartbeats 1000000 in
theorem heldLinkS_any (A : Option Addr) (n c k : Nat) (w : World) (hn : k + 4 * n ≤ 1099511627776) (hrow : RowAt w A (imarks k (n * 4))) :
    Calls Try.prog 87 #[.slice A n c, .int .i64 k] w fun e w' => e = .returned (.int .i64 ((k : Int) + 4 * n)) ∧ w' = w := by
  have HO := Lib.hid hrow
  clear hrow
  go_enter Try.func87, Try.ntmps87
  go_wp2
  go_loop [1, 5] (fun kk i => ∃ j : Nat, j ≤ n ∧ i = .int .i64 j ∧ kk = .int .i64 ((k : Int) + 4 * j)) (fun _ i => n - (intOf i).toNat)
  case atStart => exact ⟨0, Nat.zero_le _, rfl, by simp⟩
  case round =>
    obtain ⟨j, hj, rfl, rfl⟩ := hrel
    by_cases hlt : j < n
    · obtain ⟨g, o, rfl, hg, hc⟩ := HO.out (by rw [imarks_length]; omega)
      have k0 := (hc (j * 4) (by rw [imarks_length]; omega)).trans (by rw [imarks_at])
      have k1 := (hc (j * 4 + 1) (by rw [imarks_length]; omega)).trans (by rw [imarks_at])
      have k2 := (hc (j * 4 + 2) (by rw [imarks_length]; omega)).trans (by rw [imarks_at])
      have k3 := (hc (j * 4 + 3) (by rw [imarks_length]; omega)).trans (by rw [imarks_at])
      clear hc
      rw [show ((k + j * 4 : Nat) : Int) = (k : Int) + 4 * j from by omega] at k0
      rw [show ((k + (j * 4 + 1) : Nat) : Int) = (k : Int) + 4 * j + 1 from by omega, show o + (j * 4 + 1) = o + j * 4 + 1 from by omega] at k1
      rw [show ((k + (j * 4 + 2) : Nat) : Int) = (k : Int) + 4 * j + 1 + 1 from by omega, show o + (j * 4 + 2) = o + j * 4 + 2 from by omega] at k2
      rw [show ((k + (j * 4 + 3) : Nat) : Int) = (k : Int) + 4 * j + 1 + 1 + 1 from by omega, show o + (j * 4 + 3) = o + j * 4 + 3 from by omega] at k3
      have x3 : (((k : Int) + 4 * j + 1 + 1 + 1) != ((k : Int) + 4 * j + 1 + 1 + 1)) = false := by simp
      have x0 : (((k : Int) + 4 * j) != ((k : Int) + 4 * j)) = false := by simp
      have x1 : (((k : Int) + 4 * j + 1) != ((k : Int) + 4 * j + 1)) = false := by simp
      have x2 : (((k : Int) + 4 * j + 1 + 1) != ((k : Int) + 4 * j + 1 + 1)) = false := by simp
      go_wp2
      go_round
      case rel => exact ⟨j + 1, by omega, by go_num, by rw [show ((j + 1 : Nat) : Int) = (j : Int) + 1 from by omega, show (k : Int) + 4 * ((j : Int) + 1) = (k : Int) + 4 * j + 1 + 1 + 1 + 1 from by omega]⟩
      case measure => simp [intOf]; omega
    · go_wp2
      go_ret
      have hjn : j = n := by omega
      subst hjn
      exact ⟨rfl, rfl⟩

set_option maxRecDepth 100000 in
set_option maxHeartbeats 1000000 in
theorem markSimple_any (n : Int) (A : Option Addr) (k c B q : Nat) (xs : List Value) (w : World) (hn : q + 4 * k ≤ 1099511627776) (hown : w.ownsRow B 42 4 (.slice A k c) k xs) :
    Calls Try.prog 34 #[grV n A k c, .int .i64 q] w fun e w' => e = .returned (.int .i64 ((q : Int) + 4 * k)) ∧ w'.ownsRow B 42 4 (.slice A k c) k (imarks q (k * 4)) ∧ (w.alloc (.cells #[.int .i64 n, .slice A k c] 25)).grownBy w' (Value.slice A k c).ownBlock := by
  unfold grV
  have HC := Lib.hid (markLinkS_keeps A k c B q xs (w.alloc (.cells #[.int .i64 n, .slice A k c] 25)) hn (hown.alloc _))
  clear hown
  go_enter Try.func34, Try.ntmps34
  go_wp2_with (go_at_call 77; refine HC.out.mono ?_; rintro e w1 ⟨rfl, h1, g1⟩)
  go_ret
  exact ⟨rfl, h1, g1⟩

set_option maxRecDepth 100000 in
set_option maxHeartbeats 1000000 in
theorem heldSimple_any (n : Int) (A : Option Addr) (k c q : Nat) (w : World) (hn : q + 4 * k ≤ 1099511627776) (hrow : RowAt w A (imarks q (k * 4))) :
    Calls Try.prog 51 #[grV n A k c, .int .i64 q] w fun e w' => e = .returned (.int .i64 ((q : Int) + 4 * k)) ∧ Below w.heap.size w w' := by
  unfold grV
  have HC := Lib.hid (fun W h => heldLinkS_any A k c q W hn h)
  have HR := Lib.hid hrow
  clear hrow
  have hlt : ¬ ((q : Int) + 4 * k < 0) := by omega
  go_enter Try.func51, Try.ntmps51
  go_wp2_with (go_at_call 87; refine (HC.out _ (HR.out.below (by repeat (first | exact Below.refl _ _ | refine below_step (by assumption) (by first | omega | (simp; done) | (simp; omega)) ?_ | refine below_drewN ?_ _ | refine Below.drew ?_ | refine Below.setCell ?_ (by first | omega | (simp; done) | (simp; omega)) _ | refine Below.alloc ?_ (by first | omega | (simp; done) | (simp; omega)) _)))).mono ?_; rintro e w1 ⟨rfl, rfl⟩)
  go_ret
  exact ⟨rfl, (by repeat (first | exact Below.refl _ _ | refine below_step (by assumption) (by first | omega | (simp; done) | (simp; omega)) ?_ | refine below_drewN ?_ _ | refine Below.drew ?_ | refine Below.setCell ?_ (by first | omega | (simp; done) | (simp; omega)) _ | refine Below.alloc ?_ (by first | omega | (simp; done) | (simp; omega)) _))⟩

end Go.Proofs.Ytnhdfnfiicioiaa

namespace Go.Proofs.Ytnhdfnfiicioiaa
open Go.RowKit Go.ChangeShapes Go.WideShapes Go.ChangeAt Go.WideMaps Go.WideElems
set_option linter.unusedVariables false
set_option linter.unusedSimpArgs false

theorem own_row3 {w : World} {B e n c : Nat} {A : Option Addr} {xs : List Value} (h : w.ownsRow B e 3 (.slice A n c) n xs) : RowAt w A xs := by
  intro hx
  have hl : xs.length = n * 3 := h.1
  obtain ⟨g, cap, hA, hBg, hg⟩ := h.form (by omega)
  obtain ⟨rfl, rfl⟩ : A = some ⟨g, 0, none⟩ ∧ c = cap := by simpa using hA
  exact ⟨g, 0, rfl, hg, fun j hj => by rw [Nat.zero_add]; exact (h.cellAt j (by omega)).trans (List.getElem?_eq_getElem hj)⟩

theorem imarks_three (k j : Nat) (xs : List Value) (h : j * 3 + 2 < xs.length) :
    ((((imarks k (j * 3) ++ xs.drop (j * 3)).set (j * 3) (.int .i64 ((k : Int) + 3 * j))).set (j * 3 + 1) (.int .i64 ((k : Int) + 3 * j + 1))).set (j * 3 + 2) (.int .i64 ((k : Int) + 3 * j + 1 + 1))) = imarks k ((j + 1) * 3) ++ xs.drop ((j + 1) * 3) := by
  rw [show (k : Int) + 3 * (j : Int) = ((k + j * 3 : Nat) : Int) from by omega, imarks_step k (j * 3) xs (by omega),
    show ((k + j * 3 : Nat) : Int) + 1 = ((k + (j * 3 + 1) : Nat) : Int) from by omega, imarks_step k (j * 3 + 1) xs (by omega),
    show ((k + (j * 3 + 1) : Nat) : Int) + 1 = ((k + (j * 3 + 1 + 1) : Nat) : Int) from by omega, show j * 3 + 2 = j * 3 + 1 + 1 from rfl, imarks_step k (j * 3 + 1 + 1) xs (by omega),
    show j * 3 + 1 + 1 + 1 = (j + 1) * 3 from by omega]

set_option maxRecDepth 100000 in
set_option maxHeartbeats 2000000 in
theorem markEdgeS_keeps (A : Option Addr) (n c B k : Nat) (xs : List Value) (w : World) (hn : k + 3 * n ≤ 1099511627776) (hown : w.ownsRow B 115 3 (.slice A n c) n xs) :
    Calls Try.prog 78 #[.slice A n c, .int .i64 k] w fun e w' => e = .returned (.int .i64 ((k : Int) + 3 * n)) ∧ w'.ownsRow B 115 3 (.slice A n c) n (imarks k (n * 3)) ∧ w.grownBy w' (Value.slice A n c).ownBlock := by
  have HO := Lib.hid hown
  have hl0 : xs.length = n * 3 := hown.1
  have HL := Lib.hid hl0
  clear hown hl0
  go_enter Try.func78, Try.ntmps78
  go_wp2
  go_loopw [1, 5] (fun kk i wr => ∃ j : Nat, j ≤ n ∧ i = .int .i64 j ∧ kk = .int .i64 ((k : Int) + 3 * j) ∧ wr.ownsRow B 115 3 (.slice A n c) n (imarks k (j * 3) ++ xs.drop (j * 3)) ∧ w.grownBy wr (Value.slice A n c).ownBlock) (fun _ i _ => n - (intOf i).toNat)
  case atStart => exact ⟨0, Nat.zero_le _, rfl, by simp, by simpa [imarks] using HO.out, World.grownBy.refl _ _⟩
  case round =>
    obtain ⟨j, hj, rfl, rfl, hown, hgr⟩ := hrel
    by_cases hlt : j < n
    · obtain ⟨g, cap, hA, hBg, hg⟩ := hown.form (by omega)
      obtain ⟨rfl, rfl⟩ : A = some ⟨g, 0, none⟩ ∧ c = cap := by simpa using hA
      clear hA
      have hlen : (imarks k (j * 3) ++ xs.drop (j * 3)).length = n * 3 := hown.1
      obtain ⟨y0, hy0⟩ : ∃ y, wr.cell? ⟨g, j * 3, none⟩ = some y := ⟨_, (hown.cellAt (j * 3) (by omega)).trans (List.getElem?_eq_getElem (by omega))⟩
      obtain ⟨y1, hy1⟩ : ∃ y, wr.cell? ⟨g, j * 3 + 1, none⟩ = some y := ⟨_, (hown.cellAt (j * 3 + 1) (by omega)).trans (List.getElem?_eq_getElem (by omega))⟩
      obtain ⟨y2, hy2⟩ : ∃ y, wr.cell? ⟨g, j * 3 + 2, none⟩ = some y := ⟨_, (hown.cellAt (j * 3 + 2) (by omega)).trans (List.getElem?_eq_getElem (by omega))⟩
      have f0 := hown.frozenAt (j * 3)
      have f1 := hown.frozenAt (j * 3 + 1)
      have f2 := hown.frozenAt (j * 3 + 2)
      have h1 := hown.stored (j * 3) (.int .i64 ((k : Int) + 3 * j))
      have h2 := h1.1.stored (j * 3 + 1) (.int .i64 ((k : Int) + 3 * j + 1))
      have h3 := h2.1.stored (j * 3 + 2) (.int .i64 ((k : Int) + 3 * j + 1 + 1))
      have HS := Lib.hid h3.1
      have HG := Lib.hid (grown_trans (grown_trans (grown_trans hgr h1.2) h2.2) h3.2)
      clear hown hgr h1 h2 h3 hlen
      go_wp2
      go_roundw
      case rel =>
        have hl := HL.out
        have h1 := HS.out
        rw [imarks_three k j xs (by omega)] at h1
        exact ⟨j + 1, by omega, by go_num, by rw [show ((j + 1 : Nat) : Int) = (j : Int) + 1 from by omega, show (k : Int) + 3 * ((j : Int) + 1) = (k : Int) + 3 * j + 1 + 1 + 1 from by omega], h1, HG.out⟩
      case measure => simp [intOf]; omega
    · go_wp2
      go_ret
      have hjn : j = n := by omega
      subst hjn
      have hl := HL.out
      refine ⟨rfl, ?_, hgr⟩
      simpa [← hl] using hown

set_option maxRecDepth 100000 in
set_option maxHeartbeats 1000000 in
theorem heldEdgeS_any (A : Option Addr) (n c k : Nat) (w : World) (hn : k + 3 * n ≤ 1099511627776) (hrow : RowAt w A (imarks k (n * 3))) :
    Calls Try.prog 79 #[.slice A n c, .int .i64 k] w fun e w' => e = .returned (.int .i64 ((k : Int) + 3 * n)) ∧ w' = w := by
  have HO := Lib.hid hrow
  clear hrow
  go_enter Try.func79, Try.ntmps79
  go_wp2
  go_loop [1, 5] (fun kk i => ∃ j : Nat, j ≤ n ∧ i = .int .i64 j ∧ kk = .int .i64 ((k : Int) + 3 * j)) (fun _ i => n - (intOf i).toNat)
  case atStart => exact ⟨0, Nat.zero_le _, rfl, by simp⟩
  case round =>
    obtain ⟨j, hj, rfl, rfl⟩ := hrel
    by_cases hlt : j < n
    · obtain ⟨g, o, rfl, hg, hc⟩ := HO.out (by rw [imarks_length]; omega)
      have k0 := (hc (j * 3) (by rw [imarks_length]; omega)).trans (by rw [imarks_at])
      have k1 := (hc (j * 3 + 1) (by rw [imarks_length]; omega)).trans (by rw [imarks_at])
      have k2 := (hc (j * 3 + 2) (by rw [imarks_length]; omega)).trans (by rw [imarks_at])
      clear hc
      rw [show ((k + j * 3 : Nat) : Int) = (k : Int) + 3 * j from by omega] at k0
      rw [show ((k + (j * 3 + 1) : Nat) : Int) = (k : Int) + 3 * j + 1 from by omega, show o + (j * 3 + 1) = o + j * 3 + 1 from by omega] at k1
      rw [show ((k + (j * 3 + 2) : Nat) : Int) = (k : Int) + 3 * j + 1 + 1 from by omega, show o + (j * 3 + 2) = o + j * 3 + 2 from by omega] at k2
      have x0 : (((k : Int) + 3 * j) != ((k : Int) + 3 * j)) = false := by simp
      have x1 : (((k : Int) + 3 * j + 1) != ((k : Int) + 3 * j + 1)) = false := by simp
      have x2 : (((k : Int) + 3 * j + 1 + 1) != ((k : Int) + 3 * j + 1 + 1)) = false := by simp
      go_wp2
      go_round
      case rel => exact ⟨j + 1, by omega, by go_num, by rw [show ((j + 1 : Nat) : Int) = (j : Int) + 1 from by omega, show (k : Int) + 3 * ((j : Int) + 1) = (k : Int) + 3 * j + 1 + 1 + 1 from by omega]⟩
      case measure => simp [intOf]; omega
    · go_wp2
      go_ret
      have hjn : j = n := by omega
      subst hjn
      exact ⟨rfl, rfl⟩

end Go.Proofs.Ytnhdfnfiicioiaa

namespace Go.Proofs.Ytnhdfnfiicioiaa
open Go.RowKit
set_option linter.unusedVariables false
set_option linter.unusedSimpArgs false

theorem and_low (y : Int) : 0 ≤ bits .and .i64 y 255 ∧ bits .and .i64 y 255 ≤ 255 := by
  have e : bits .and .i64 y 255 = IntKind.i64.wrap ((BitVec.ofInt 64 y &&& BitVec.ofInt 64 255).toNat : Int) := rfl
  have h1 : (BitVec.ofInt 64 255).toNat = 255 := by decide
  rw [e, BitVec.toNat_and, h1, IntKind.wrap_i64]
  have h2 : (BitVec.ofInt 64 y).toNat &&& 255 ≤ 255 := Nat.and_le_right
  omega

theorem and_mid (y : Int) : 0 ≤ bits .and .i64 y 1073741823 ∧ bits .and .i64 y 1073741823 ≤ 1073741823 := by
  have e : bits .and .i64 y 1073741823 = IntKind.i64.wrap ((BitVec.ofInt 64 y &&& BitVec.ofInt 64 1073741823).toNat : Int) := rfl
  have h1 : (BitVec.ofInt 64 1073741823).toNat = 1073741823 := by decide
  rw [e, BitVec.toNat_and, h1, IntKind.wrap_i64]
  have h2 : (BitVec.ofInt 64 y).toNat &&& 1073741823 ≤ 1073741823 := Nat.and_le_right
  omega

/-- A slice of bytes that is read: nil, or its cells hold bytes, in a block other than g. -/
def Bytes (w : World) (g : Nat) (A : Option Addr) (n : Nat) : Prop :=
  0 < n → ∃ b o, A = some ⟨b, o, none⟩ ∧ b < w.heap.size ∧ b ≠ g ∧ ∀ j, j < n → ∃ z : Int, 0 ≤ z ∧ z ≤ 255 ∧ w.cell? ⟨b, o + j, none⟩ = some (.int .u8 z)
/-- The cursor in block g. -/
def Cur (w : World) (g : Nat) (A : Option Addr) (n c : Nat) : Prop :=
  ∃ (i : Nat) (h : Int), i ≤ n ∧ -9223372036854775808 ≤ h ∧ h ≤ 9223372036854775807 ∧ w.heap[g]? = some (.cells #[.slice A n c, .int .i64 i, .int .i64 h] 105 (0, 0))

theorem Bytes.grown {w w' : World} {g : Nat} {A : Option Addr} {n : Nat} (h : Bytes w g A n) (hg : w.grownBy w' (some g)) : Bytes w' g A n := by
  intro hn
  obtain ⟨b, o, hA, hb, hne, hc⟩ := h hn
  refine ⟨b, o, hA, Nat.lt_of_lt_of_le hb hg.size, hne, fun j hj => ?_⟩
  obtain ⟨z, z0, z1, hz⟩ := hc j hj
  exact ⟨z, z0, z1, (World.cell?_of_block (a := ⟨b, o + j, none⟩) (hg.block b hb (by simpa using hne))).trans hz⟩

theorem row_grown {w : World} {g j : Nat} {u : Value} : w.grownBy (w.setCell ⟨g, j, none⟩ u) (some g) :=
  ⟨rfl, rfl, rfl, by simp, fun k _ hk => heap_setCell_other w ⟨g, j, none⟩ k u (fun e => hk (by simp [e]))⟩
theorem drew_grown {w : World} {r : Option Nat} (q : Nat) : w.grownBy (w.drewN q) r := ⟨rfl, rfl, rfl, Nat.le_refl _, fun _ _ _ => rfl⟩
theorem set_row {w : World} {g j : Nat} {cs : Array Value} {t : TypeId} {fr : Nat × Nat} (hg : w.heap[g]? = some (.cells cs t fr)) (u : Value) :
    (w.setCell ⟨g, j, none⟩ u).heap[g]? = some (.cells (cs.setIfInBounds j u) t fr) := by
  simp [World.setCell, Array.getElem?_modify, hg]
theorem wrap64_rng (x : Int) : -9223372036854775808 ≤ wrap64 x ∧ wrap64 x ≤ 9223372036854775807 := by unfold wrap64; omega

set_option maxRecDepth 100000 in
set_option maxHeartbeats 1000000 in
theorem l01Byte_any (g : Nat) (A : Option Addr) (n c : Nat) (w : World) (hm : n ≤ 1048576) (hcur : Cur w g A n c) (hby : Bytes w g A n) :
    Calls Try.prog 94 #[.pointer (some ⟨g, 0, none⟩)] w fun e w' => ∃ x : Int, e = .returned (.int .i64 x) ∧ 0 ≤ x ∧ x ≤ 255 ∧ Cur w' g A n c ∧ w.grownBy w' (some g) := by
  obtain ⟨i, h, hi, hh0, hh1, hrow⟩ := hcur
  have HROW := Lib.hid hrow
  have HBY := Lib.hid hby
  have c0 := cell_of_row _ _ 0 _ _ _ hrow
  have c1 := cell_of_row _ _ 1 _ _ _ hrow
  have c2 := cell_of_row _ _ 2 _ _ _ hrow
  have f2 := frozen_of_row _ _ 2 _ _ hrow
  simp at c0 c1 c2
  clear hrow hby
  go_enter Try.func94, Try.ntmps94
  go_wp2_with fail
  obtain ⟨H, hH⟩ : ∃ H, H = wrap64 (wrap64 (h * 6364136223846793005) + 1442695040888963407) := ⟨_, rfl⟩
  rw [← hH]
  have hHr := wrap64_rng (wrap64 (h * 6364136223846793005) + 1442695040888963407)
  rw [← hH] at hHr
  obtain ⟨hH0, hH1⟩ := hHr
  generalize hW : w.setCell ⟨g, 2, none⟩ (.int .i64 H) = w1
  have HROW1 : Hid (w1.heap[g]? = some (.cells #[.slice A n c, .int .i64 i, .int .i64 H] 105 (0, 0))) := by
    rw [← hW]
    exact Lib.hid (set_row HROW.out _)
  have G1 : w.grownBy w1 (some g) := by rw [← hW]; exact row_grown
  have HBY1 := Lib.hid (HBY.out.grown G1)
  have c0 := cell_of_row _ _ 0 _ _ _ HROW1.out
  have c1 := cell_of_row _ _ 1 _ _ _ HROW1.out
  have c2 := cell_of_row _ _ 2 _ _ _ HROW1.out
  have f1 := frozen_of_row _ _ 1 _ _ HROW1.out
  simp at c0 c1 c2
  clear hW hH HROW HBY
  go_quiet (fail)
  go_wp2_with fail
  have hX := and_low (bits .xor .i64 (H / 8589934592) (H / 35184372088832))
  generalize bits .and .i64 (bits .xor .i64 (H / 8589934592) (H / 35184372088832)) 255 = X at hX ⊢
  obtain ⟨hX0, hX1⟩ := hX
  by_cases hlt : i < n
  · have hlt2 : (i : Int) < n := by omega
    obtain ⟨b, o, rfl, hb, hne, hc⟩ := HBY1.out (by omega)
    obtain ⟨z, z0, z1, hz⟩ := hc i hlt
    clear hc
    go_quiet (fail)
    go_wp2_with fail
    go_quiet (fail)
    go_wp2_with fail
    go_ret
    have hr2 := set_row (j := 1) HROW1.out (.int .i64 ((i : Int) + 1))
    exact ⟨_, rfl, (and_low _).1, (and_low _).2, ⟨i + 1, H, by omega, hH0, hH1, hr2⟩, grown_trans (grown_trans G1 (drew_grown _)) row_grown⟩
  · have hlt2 : ¬ (i : Int) < n := by omega
    go_quiet (fail)
    go_wp2_with fail
    go_ret
    exact ⟨X, rfl, hX0, hX1, ⟨i, H, hi, hH0, hH1, HROW1.out⟩, grown_trans G1 (drew_grown _)⟩

set_option maxRecDepth 100000 in
set_option maxHeartbeats 1000000 in
/-- A number below n, for n from 1 to 256. -/
theorem l01Below_small (m : Nat) (g : Nat) (A : Option Addr) (n c : Nat) (w : World) (hm0 : 0 < m) (hm1 : m ≤ 256) (hm : n ≤ 1048576) (hcur : Cur w g A n c) (hby : Bytes w g A n) :
    Calls Try.prog 63 #[.pointer (some ⟨g, 0, none⟩), .int .i64 m] w fun e w' => ∃ x : Nat, e = .returned (.int .i64 x) ∧ x < m ∧ Cur w' g A n c ∧ w.grownBy w' (some g) := by
  have HB := Lib.hid (l01Byte_any g A n c w hm hcur hby)
  clear hcur hby
  go_enter Try.func63, Try.ntmps63
  go_wp2_with fail
  refine HB.out.mono ?_
  rintro e w1 ⟨x, rfl, hx0, hx1, hc1, hg1⟩
  have HC := Lib.hid hc1
  have HG := Lib.hid hg1
  clear hc1 hg1
  go_wp2
  go_ret
  refine ⟨(x % m).toNat, ?_, ?_, HC.out, HG.out⟩
  · have : 0 ≤ x % (m : Int) := Int.emod_nonneg _ (by omega)
    rw [Int.toNat_of_nonneg this]; rfl
  · have h1 : x % (m : Int) < m := Int.emod_lt_of_pos _ (by omega)
    have h2 : 0 ≤ x % (m : Int) := Int.emod_nonneg _ (by omega)
    omega

theorem l01New_row (w : World) (A : Option Addr) (n c : Nat) (h : Int) : (w.alloc (.cells #[.slice A n c, .int .i64 0, .int .i64 h] 105)).heap[w.heap.size]? = some (.cells #[.slice A n c, .int .i64 0, .int .i64 h] 105 (0, 0)) := heap_alloc_new w _

set_option maxRecDepth 100000 in
set_option maxHeartbeats 1000000 in
set_option maxRecDepth 100000 in
theorem l01New_any (A : Option Addr) (n c : Nat) (w : World) (hm : n ≤ 1048576) (hby : Bytes w w.heap.size A n) :
    Calls Try.prog 53 #[.slice A n c] w fun e w' => e = .returned (.pointer (some ⟨w.heap.size, 0, none⟩)) ∧ Cur w' w.heap.size A n c ∧ Below w.heap.size w w' := by
  have HBY := Lib.hid hby
  clear hby
  go_enter Try.func53, Try.ntmps53
  go_wp2
  go_loop [3, 4] (fun x i => ∃ (k : Nat) (h : Int), k ≤ n ∧ i = .int .i64 k ∧ x = .int .i64 h ∧ -9223372036854775808 ≤ h ∧ h ≤ 9223372036854775807) (fun _ i => n - (intOf i).toNat)
  case atStart => exact ⟨0, _, Nat.zero_le _, rfl, rfl, by omega, by omega⟩
  case round =>
    obtain ⟨k, h, hk, rfl, rfl, hh0, hh1⟩ := hrel
    by_cases hlt : k < n
    · obtain ⟨b, o, rfl, hb, hne, hc⟩ := HBY.out (by omega)
      obtain ⟨z, z0, z1, hz⟩ := hc k hlt
      clear hc
      by_cases hk4 : k < 4000
      · go_wp2
        go_round
        case rel =>
          have hm2 := and_mid (wrap64 (wrap64 (wrap64 (h * 71) + z) + 7))
          exact ⟨k + 1, _, by omega, by go_num, rfl, by omega, by omega⟩
        case measure => simp [intOf]; omega
      · go_wp2
        go_ret
        exact ⟨rfl, ⟨0, h, Nat.zero_le _, hh0, hh1, l01New_row w _ n c h⟩, (Below.refl _ _).alloc (Nat.le_refl _) _⟩
    · go_wp2
      go_ret
      exact ⟨rfl, ⟨0, h, Nat.zero_le _, hh0, hh1, l01New_row w _ n c h⟩, (Below.refl _ _).alloc (Nat.le_refl _) _⟩

theorem Cur.kept {w w' : World} {g : Nat} {A : Option Addr} {n c : Nat} (h : Cur w g A n c) (hb : w'.heap[g]? = w.heap[g]?) : Cur w' g A n c := by
  obtain ⟨i, x, h1, h2, h3, h4⟩ := h
  exact ⟨i, x, h1, h2, h3, hb.trans h4⟩
theorem Cur.lt {w : World} {g : Nat} {A : Option Addr} {n c : Nat} (h : Cur w g A n c) : g < w.heap.size := by
  obtain ⟨i, x, h1, h2, h3, h4⟩ := h
  exact (Array.getElem?_eq_some_iff.1 h4).1
theorem Cur.alloc {w : World} {g : Nat} {A : Option Addr} {n c : Nat} (h : Cur w g A n c) (o : Obj) : Cur (w.alloc o) g A n c := h.kept (Below.heap_alloc w o g h.lt)
theorem Bytes.below {w w' : World} {g : Nat} {A : Option Addr} {n : Nat} (h : Bytes w g A n) (hb : Below w.heap.size w w') : Bytes w' g A n := by
  intro hn
  obtain ⟨b, o, hA, hlt, hne, hc⟩ := h hn
  have := hb.size
  refine ⟨b, o, hA, by omega, hne, fun j hj => ?_⟩
  obtain ⟨z, z0, z1, hz⟩ := hc j hj
  exact ⟨z, z0, z1, (hb.cell (p := ⟨b, o + j, none⟩) hlt).trans hz⟩
/-- Bytes that lay there when the call began lie in none of its own blocks. -/
theorem Bytes.fresh {w w' : World} {A : Option Addr} {n : Nat} (h : Bytes w' w.heap.size A n) (hb : Below w.heap.size w w') : Bytes w' w'.heap.size A n := by
  intro hn
  obtain ⟨b, o, hA, hlt, hne, hc⟩ := h hn
  exact ⟨b, o, hA, hlt, by omega, hc⟩
theorem Bytes.alloc {w : World} {g : Nat} {A : Option Addr} {n : Nat} (h : Bytes w g A n) (o : Obj) : Bytes (w.alloc o) g A n := h.below ((Below.refl _ _).alloc (Nat.le_refl _) o)

theorem five_row (w : World) (v : Nat → ByteArray) : ∀ j (h : j < [v 0, v 1, v 2, v 3, v 4].length), (w.alloc (.cells #[.string (v 0), .string (v 1), .string (v 2), .string (v 3), .string (v 4)] 9)).cell? ⟨w.heap.size, j, none⟩ = some (.string ([v 0, v 1, v 2, v 3, v 4][j])) := by
  intro j hj
  rw [cell_of_row _ _ j _ _ _ (heap_alloc_new w _)]
  match j, hj with
  | 0, _ => rfl
  | 1, _ => rfl
  | 2, _ => rfl
  | 3, _ => rfl
  | 4, _ => rfl

set_option maxRecDepth 100000 in
set_option maxHeartbeats 1000000 in
theorem l29New_any (m : Nat) (A : Option Addr) (n c : Nat) (w : World) (hm : n ≤ 1048576) (hm2 : m ≤ 65536) (hby : Bytes w w.heap.size A n) :
    Calls Try.prog 62 #[.slice A n c, .int .i64 m] w fun e w' => e = .returned (.pointer (some ⟨w.heap.size, 0, none⟩)) ∧ Cur w' w.heap.size A n c ∧ Below w.heap.size w w' := by
  have HN := Lib.hid (l01New_any A n c w hm hby)
  have HBY := Lib.hid hby
  clear hby
  go_enter Try.func62, Try.ntmps62
  go_wp2_with fail
  refine HN.out.mono ?_
  rintro e w1 ⟨rfl, hc1, b1⟩
  have HB1 := Lib.hid (HBY.out.below b1)
  have HC1 := Lib.hid hc1
  clear hc1
  go_wp2
  go_loopw [6] (fun i wr => ∃ k : Nat, k ≤ m ∧ i = .int .i64 k ∧ Cur wr w.heap.size A n c ∧ Bytes wr w.heap.size A n ∧ Below w.heap.size w wr) (fun i _ => m - (intOf i).toNat)
  case atStart => exact ⟨0, Nat.zero_le _, rfl, HC1.out, HB1.out, b1⟩
  case round =>
    obtain ⟨k, hk, rfl, hc, hb, hbw⟩ := hrel
    by_cases hlt : k < m
    · have HQ := Lib.hid (l01Byte_any w.heap.size A n c wr hm hc hb)
      have HB := Lib.hid hb
      clear hc hb
      go_wp2_with fail
      refine HQ.out.mono ?_
      rintro e w3 ⟨x, rfl, hx0, hx1, hc3, g3⟩
      have b3 := hbw.grown g3 hbw.size (fun k hk => by cases hk; exact Nat.le_refl _)
      have HB3 := Lib.hid (HB.out.grown g3)
      have HC3 := Lib.hid hc3
      clear hc3 g3
      go_wp2
      go_roundw
      case rel => exact ⟨k + 1, by omega, by go_num, HC3.out, HB3.out, b3⟩
      case measure => simp [intOf]; omega
    · have HC := Lib.hid hc
      clear hc hb
      go_wp2
      go_ret
      exact ⟨rfl, HC.out, hbw⟩

end Go.Proofs.Ytnhdfnfiicioiaa

namespace Go.Proofs.Ytnhdfnfiicioiaa
open Go.RowKit Go.ChangeShapes Go.WideShapes Go.ChangeAt Go.WideMaps Go.WideElems
set_option linter.unusedVariables false

theorem cells_u8 : Try.prog.cellsOf 5 = 1 := by kernel_rfl

/-- A slice of bytes that comes in, nil or not: its length, and that its cells hold bytes, below whatever block the call makes. -/
theorem bytes_in {H : Type} {enc : TypeId × Value → H} {P : Program} {W : World} {t e : TypeId} {fuel n c : Nat} {A : Option Addr} {x : DataW H × List MemPlace}
    (ht : P.underlying t = some (.slice e)) (he : P.underlying e = some (.int .u8)) (hc : P.cellsOf e = 1)
    (hf : DataW.trod enc P W 0 (fun _ => true) true fuel t (Value.slice A n c).cells.toList = some x) :
    n ≤ maxLen ∧ Bytes W W.heap.size A n := by
  rcases open_ints ht he hc hf with ⟨hcs, _⟩ | ⟨a, len, cap, zs, hcs, _, hl, hm, hz, _, hcell, hws⟩
  · simp [Value.cells] at hcs
    obtain ⟨rfl, rfl, rfl⟩ := hcs
    exact ⟨Nat.zero_le _, fun h => by omega⟩
  · simp [Value.cells] at hcs
    obtain ⟨rfl, rfl, rfl⟩ := hcs
    have hlen : zs.length = c := by simpa using hz
    refine ⟨by omega, fun hp => ?_⟩
    have h0 := hcell 0 (by omega)
    obtain ⟨b, off, spot⟩ := a
    have hspot : spot = none := by simpa [Addr.add] using World.cell?_spot h0
    subst hspot
    have hb : b < W.heap.size := by
      rcases Nat.lt_or_ge b W.heap.size with hlt | hge
      · exact hlt
      · have : W.heap[b]? = none := Array.getElem?_eq_none hge
        simp [Addr.add, World.cell?, this] at h0
    refine ⟨b, off, rfl, hb, by omega, fun j hj => ?_⟩
    have hw := hws (zs.getD j 0) (by
      rw [List.getD_eq_getElem?_getD, List.getElem?_eq_getElem (by omega)]
      exact List.getElem_mem _)
    have hb2 : 0 ≤ zs.getD j 0 ∧ zs.getD j 0 ≤ 255 := by
      simpa [Lit.wf, IntKind.min, IntKind.max, IntKind.signed, IntKind.bits] using hw
    exact ⟨zs.getD j 0, hb2.1, hb2.2, by rw [← Go.WideShapes.add_plain]; exact hcell j (by omega)⟩

end Go.Proofs.Ytnhdfnfiicioiaa

namespace Go.Proofs.Ytnhdfnfiicioiaa
open Go.RowKit
set_option linter.unusedVariables false
set_option linter.unusedSimpArgs false

theorem grown_of_below {w w' : World} {r : Option Nat} (b : Below w.heap.size w w') : w.grownBy w' r := ⟨b.os, b.tape, b.output, b.size, fun k hk _ => b.block k hk⟩
theorem grown_setCell {w w2 : World} {r : Option Nat} (h : w.grownBy w2 r) {p : Addr} (hp : w.heap.size ≤ p.block) (u : Value) : w.grownBy (w2.setCell p u) r :=
  ⟨h.os, h.tape, h.output, by simpa using h.size, fun k hk hr => (Below.heap_setCell w2 p u k (by omega)).trans (h.block k hk hr)⟩
theorem grown_alloc {w w2 : World} {r : Option Nat} (h : w.grownBy w2 r) (ob : Obj) : w.grownBy (w2.alloc ob) r :=
  ⟨h.os, h.tape, h.output, by have := h.size; simp; omega, fun k hk hr => (Below.heap_alloc w2 ob k (Nat.lt_of_lt_of_le hk h.size)).trans (h.block k hk hr)⟩
theorem Cur.setCell {w : World} {g : Nat} {A : Option Addr} {n c : Nat} (h : Cur w g A n c) {p : Addr} (hp : g ≠ p.block) (u : Value) : Cur (w.setCell p u) g A n c := h.kept (Below.heap_setCell w p u g hp)

set_option maxRecDepth 100000 in
set_option maxHeartbeats 1000000 in
theorem l02Bounded_any (g : Nat) (A : Option Addr) (n c : Nat) (w : World) (hm : n ≤ 1048576) (hcur : Cur w g A n c) (hby : Bytes w g A n) :
    Calls Try.prog 110 #[.pointer (some ⟨g, 0, none⟩)] w fun e w' => ∃ l k : Int, e = .returned (ivV l k) ∧ (-10 ≤ l ∧ l ≤ 10 ∧ l ≤ k ∧ k ≤ 17) ∧ Cur w' g A n c ∧ w.grownBy w' (some g) := by
  have hg := hcur.lt
  have HBY := Lib.hid hby
  have HCU := Lib.hid hcur
  clear hcur hby
  go_enter Try.func110, Try.ntmps110
  go_wp2_with fail
  refine (l01Below_small 21 g A n c _ (by omega) (by omega) hm (HCU.out.alloc _) (HBY.out.alloc _)).mono ?_
  rintro e w1 ⟨x, rfl, hx, hc1, g1⟩
  have hb1 := g1.block w.heap.size (by simp) (by simp; omega)
  have k10 := (World.cell?_of_block (a := ⟨w.heap.size, 0, none⟩) hb1).trans (show _ = some (.int .i64 0) by go_simp)
  have k11 := (World.cell?_of_block (a := ⟨w.heap.size, 1, none⟩) hb1).trans (show _ = some (.int .i64 0) by go_simp)
  have z10 := (World.frozen?_of_block (a := ⟨w.heap.size, 0, none⟩) hb1).trans (show _ = false by go_simp)
  have z11 := (World.frozen?_of_block (a := ⟨w.heap.size, 1, none⟩) hb1).trans (show _ = false by go_simp)
  have hs1 : w.heap.size < w1.heap.size := by have := g1.size; simp at this; omega
  have HB1 := Lib.hid ((HBY.out.alloc _).grown g1)
  have HC1 := Lib.hid hc1
  have G1 := Lib.hid (grown_trans (grown_of_below (below_one _)) g1)
  clear hb1 hc1 g1
  go_wp2_with fail
  refine (l01Below_small 8 g A n c _ (by omega) (by omega) hm HC1.out HB1.out).mono ?_
  rintro e w2 ⟨y, rfl, hy, hc2, g2⟩
  have hb2 := g2.block w.heap.size (by omega) (by simp; omega)
  have k20 := (World.cell?_of_block (a := ⟨w.heap.size, 0, none⟩) hb2).trans k10
  have k21 := (World.cell?_of_block (a := ⟨w.heap.size, 1, none⟩) hb2).trans k11
  have z20 := (World.frozen?_of_block (a := ⟨w.heap.size, 0, none⟩) hb2).trans z10
  have z21 := (World.frozen?_of_block (a := ⟨w.heap.size, 1, none⟩) hb2).trans z11
  have HC2 := Lib.hid hc2
  have G2 := Lib.hid (grown_trans G1.out g2)
  clear hb2 hc2 g2
  go_wp2
  refine bodyPost_ret (v := .agg #[.int .i64 ((x : Int) - 10), .int .i64 ((x : Int) - 10 + y)]) (by first | (simp [results, Try.results110, go_sem]; done) | simp [*, results, Try.results110, go_sem]) rfl ⟨_, _, rfl, ⟨by omega, by omega, by omega, by omega⟩, (HC2.out.setCell (by simp; omega) _).setCell (by simp; omega) _, grown_setCell (grown_setCell G2.out (by simp) _) (by simp) _⟩

def DrawnI (l h : Int) : Prop := (l = -1000000 ∨ (-10 ≤ l ∧ l ≤ 10)) ∧ (h = 1000000 ∨ (-10 ≤ h ∧ h ≤ 17)) ∧ (l = -1000000 ∨ h = 1000000 ∨ l ≤ h)

set_option maxRecDepth 100000 in
set_option maxHeartbeats 1000000 in
theorem l02Draw_any (g : Nat) (A : Option Addr) (n c : Nat) (w : World) (hm : n ≤ 1048576) (hcur : Cur w g A n c) (hby : Bytes w g A n) :
    Calls Try.prog 88 #[.pointer (some ⟨g, 0, none⟩)] w fun e w' => ∃ l k : Int, e = .returned (ivV l k) ∧ DrawnI l k ∧ Cur w' g A n c ∧ w.grownBy w' (some g) := by
  have hg := hcur.lt
  have HBY := Lib.hid hby
  have HCU := Lib.hid hcur
  clear hcur hby
  go_enter Try.func88, Try.ntmps88
  go_wp2_with fail
  refine (l02Bounded_any g A n c _ hm (HCU.out.alloc _) (HBY.out.alloc _)).mono ?_
  rintro e w1 ⟨l, k, rfl, hlk, hc1, g1⟩
  unfold ivV
  have hb1 := g1.block w.heap.size (by simp) (by simp; omega)
  have k10 := (World.cell?_of_block (a := ⟨w.heap.size, 0, none⟩) hb1).trans (show _ = some (.int .i64 0) by go_simp)
  have k11 := (World.cell?_of_block (a := ⟨w.heap.size, 1, none⟩) hb1).trans (show _ = some (.int .i64 0) by go_simp)
  have z10 := (World.frozen?_of_block (a := ⟨w.heap.size, 0, none⟩) hb1).trans (show _ = false by go_simp)
  have z11 := (World.frozen?_of_block (a := ⟨w.heap.size, 1, none⟩) hb1).trans (show _ = false by go_simp)
  have hs1 : w.heap.size < w1.heap.size := by have := g1.size; simp at this; omega
  have HB1 := Lib.hid ((HBY.out.alloc _).grown g1)
  have HC1 := Lib.hid hc1
  have G1 := Lib.hid (grown_trans (grown_of_below (below_one _)) g1)
  clear hb1 hc1 g1
  go_wp2_with fail
  refine (l01Below_small 8 g A n c _ (by omega) (by omega) hm (HC1.out.alloc _) (HB1.out.alloc _)).mono ?_
  rintro e w2 ⟨x, rfl, hx, hc2, g2⟩
  have hb2 := (g2.block w.heap.size (by simp; omega) (by simp; omega)).trans (Below.heap_alloc w1 _ w.heap.size hs1)
  have k20 := (World.cell?_of_block (a := ⟨w.heap.size, 0, none⟩) hb2).trans k10
  have k21 := (World.cell?_of_block (a := ⟨w.heap.size, 1, none⟩) hb2).trans k11
  have z20 := (World.frozen?_of_block (a := ⟨w.heap.size, 0, none⟩) hb2).trans z10
  have z21 := (World.frozen?_of_block (a := ⟨w.heap.size, 1, none⟩) hb2).trans z11
  have hb3 := g2.block w1.heap.size (by simp) (by simp; omega)
  have j20 := (World.cell?_of_block (a := ⟨w1.heap.size, 0, none⟩) hb3).trans (show _ = some (.int .i64 l) by go_simp)
  have j21 := (World.cell?_of_block (a := ⟨w1.heap.size, 1, none⟩) hb3).trans (show _ = some (.int .i64 k) by go_simp)
  have y20 := (World.frozen?_of_block (a := ⟨w1.heap.size, 0, none⟩) hb3).trans (show _ = false by go_simp)
  have y21 := (World.frozen?_of_block (a := ⟨w1.heap.size, 1, none⟩) hb3).trans (show _ = false by go_simp)
  have HC2 := Lib.hid hc2
  have G2 := Lib.hid (grown_trans (grown_alloc G1.out _) g2)
  have HLK := Lib.hid hlk
  have ne1 : (w.heap.size = w1.heap.size) = False := eq_false (by omega)
  have ne2 : (w1.heap.size = w.heap.size) = False := eq_false (by omega)
  clear hb2 hb3 hc2 g2 hlk
  have hx4 : x = 0 ∨ x = 1 ∨ x = 2 ∨ 3 ≤ x := by omega
  rcases hx4 with rfl | rfl | rfl | h3
  · go_wp2
    refine bodyPost_ret (v := .agg #[.int .i64 (-1000000), .int .i64 k]) (by first | (simp [results, Try.results88, go_sem]; done) | simp [*, results, Try.results88, go_sem]) rfl ⟨_, _, rfl, by have := HLK.out; unfold DrawnI; omega, ?_, ?_⟩
    · (repeat (first | exact HC2.out | refine Cur.setCell ?_ (by first | omega | (simp; omega)) _))
    · (repeat (first | exact G2.out | refine grown_setCell ?_ (by first | omega | (simp; done) | (simp; omega)) _))
  · go_wp2
    refine bodyPost_ret (v := .agg #[.int .i64 l, .int .i64 1000000]) (by first | (simp [results, Try.results88, go_sem]; done) | simp [*, results, Try.results88, go_sem]) rfl ⟨_, _, rfl, by have := HLK.out; unfold DrawnI; omega, ?_, ?_⟩
    · (repeat (first | exact HC2.out | refine Cur.setCell ?_ (by first | omega | (simp; omega)) _))
    · (repeat (first | exact G2.out | refine grown_setCell ?_ (by first | omega | (simp; done) | (simp; omega)) _))
  · go_wp2
    refine bodyPost_ret (v := .agg #[.int .i64 (-1000000), .int .i64 1000000]) (by first | (simp [results, Try.results88, go_sem]; done) | simp [*, results, Try.results88, go_sem]) rfl ⟨_, _, rfl, by have := HLK.out; unfold DrawnI; omega, ?_, ?_⟩
    · (repeat (first | exact HC2.out | refine Cur.setCell ?_ (by first | omega | (simp; omega)) _))
    · (repeat (first | exact G2.out | refine grown_setCell ?_ (by first | omega | (simp; done) | (simp; omega)) _))
  · have e0 : ((x : Int) == 0) = false := by simp; omega
    have e1 : ((x : Int) == 1) = false := by simp; omega
    have e2 : ((x : Int) == 2) = false := by simp; omega
    go_wp2
    refine bodyPost_ret (v := .agg #[.int .i64 l, .int .i64 k]) (by first | (simp [results, Try.results88, go_sem]; done) | simp [*, results, Try.results88, go_sem]) rfl ⟨_, _, rfl, by have := HLK.out; unfold DrawnI; omega, ?_, ?_⟩
    · (repeat (first | exact HC2.out | refine Cur.setCell ?_ (by first | omega | (simp; omega)) _))
    · (repeat (first | exact G2.out | refine grown_setCell ?_ (by first | omega | (simp; done) | (simp; omega)) _))

end Go.Proofs.Ytnhdfnfiicioiaa
