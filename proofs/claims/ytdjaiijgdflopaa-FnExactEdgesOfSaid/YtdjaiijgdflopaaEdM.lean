/-
  WALKS of markEdgeS (with what it leaves) and heldEdgeS.
-/
import Derived.Test.YtdjaiijgdflopaaGrM
namespace Go.Proofs.Ytdjaiijgdflopaa
open Go.RowKit Go.ChangeShapes Go.WideShapes Go.ChangeAt Go.WideMaps Go.WideElems
set_option linter.unusedVariables false
set_option linter.unusedSimpArgs false

theorem own_row3 {w : World} {B e n c : Nat} {A : Option Addr} {xs : List Value} (h : w.ownsRow B e 3 (.slice A n c) n xs) : RowAt w A xs := by
  intro hx
  have hl : xs.length = n * 3 := h.1
  obtain ⟨g, cap, hA, hBg, hg⟩ := h.form (by omega)
  obtain ⟨rfl, rfl⟩ : A = some ⟨g, 0, none⟩ ∧ c = cap := by simpa using hA
  exact ⟨g, 0, rfl, hg, fun j hj => by rw [Nat.zero_add]; exact (h.cellAt j (by omega)).trans (List.getElem?_eq_getElem hj)⟩

theorem imarks_three (k j : Nat) (xs : List Value) (h : j * 3 + 2 < xs.length) :
    ((((imarks k (j * 3) ++ xs.drop (j * 3)).set (j * 3) (.int .i64 ((k : Int) + 3 * j))).set (j * 3 + 1) (.int .i64 ((k : Int) + 3 * j + 1))).set (j * 3 + 2) (.int .i64 ((k : Int) + 3 * j + 1 + 1))) = imarks k ((j + 1) * 3) ++ xs.drop ((j + 1) * 3) := by
  rw [show (k : Int) + 3 * (j : Int) = ((k + j * 3 : Nat) : Int) from by omega, imarks_step k (j * 3) xs (by omega),
    show ((k + j * 3 : Nat) : Int) + 1 = ((k + (j * 3 + 1) : Nat) : Int) from by omega, imarks_step k (j * 3 + 1) xs (by omega),
    show ((k + (j * 3 + 1) : Nat) : Int) + 1 = ((k + (j * 3 + 1 + 1) : Nat) : Int) from by omega, show j * 3 + 2 = j * 3 + 1 + 1 from rfl, imarks_step k (j * 3 + 1 + 1) xs (by omega),
    show j * 3 + 1 + 1 + 1 = (j + 1) * 3 from by omega]

set_option maxRecDepth 100000 in
set_option maxHeartbeats 2000000 in
theorem markEdgeS_keeps (A : Option Addr) (n c B k : Nat) (xs : List Value) (w : World) (hn : k + 3 * n ≤ 1099511627776) (hown : w.ownsRow B 35 3 (.slice A n c) n xs) :
    Calls Try.prog 47 #[.slice A n c, .int .i64 k] w fun e w' => e = .returned (.int .i64 ((k : Int) + 3 * n)) ∧ w'.ownsRow B 35 3 (.slice A n c) n (imarks k (n * 3)) ∧ w.grownBy w' (Value.slice A n c).ownBlock := by
  have HO := Lib.hid hown
  have hl0 : xs.length = n * 3 := hown.1
  have HL := Lib.hid hl0
  clear hown hl0
  go_enter Try.func47, Try.ntmps47
  go_wp2
  go_loopw [1, 5] (fun kk i wr => ∃ j : Nat, j ≤ n ∧ i = .int .i64 j ∧ kk = .int .i64 ((k : Int) + 3 * j) ∧ wr.ownsRow B 35 3 (.slice A n c) n (imarks k (j * 3) ++ xs.drop (j * 3)) ∧ w.grownBy wr (Value.slice A n c).ownBlock) (fun _ i _ => n - (intOf i).toNat)
  case atStart => exact ⟨0, Nat.zero_le _, rfl, by simp, by simpa [imarks] using HO.out, World.grownBy.refl _ _⟩
  case round =>
    obtain ⟨j, hj, rfl, rfl, hown, hgr⟩ := hrel
    by_cases hlt : j < n
    · obtain ⟨g, cap, hA, hBg, hg⟩ := hown.form (by omega)
      obtain ⟨rfl, rfl⟩ : A = some ⟨g, 0, none⟩ ∧ c = cap := by simpa using hA
      clear hA
      have hlen : (imarks k (j * 3) ++ xs.drop (j * 3)).length = n * 3 := hown.1
      obtain ⟨y0, hy0⟩ : ∃ y, wr.cell? ⟨g, j * 3, none⟩ = some y := ⟨_, (hown.cellAt (j * 3) (by omega)).trans (List.getElem?_eq_getElem (by omega))⟩
      obtain ⟨y1, hy1⟩ : ∃ y, wr.cell? ⟨g, j * 3 + 1, none⟩ = some y := ⟨_, (hown.cellAt (j * 3 + 1) (by omega)).trans (List.getElem?_eq_getElem (by omega))⟩
      obtain ⟨y2, hy2⟩ : ∃ y, wr.cell? ⟨g, j * 3 + 2, none⟩ = some y := ⟨_, (hown.cellAt (j * 3 + 2) (by omega)).trans (List.getElem?_eq_getElem (by omega))⟩
      have f0 := hown.frozenAt (j * 3)
      have f1 := hown.frozenAt (j * 3 + 1)
      have f2 := hown.frozenAt (j * 3 + 2)
      have h1 := hown.stored (j * 3) (.int .i64 ((k : Int) + 3 * j))
      have h2 := h1.1.stored (j * 3 + 1) (.int .i64 ((k : Int) + 3 * j + 1))
      have h3 := h2.1.stored (j * 3 + 2) (.int .i64 ((k : Int) + 3 * j + 1 + 1))
      have HS := Lib.hid h3.1
      have HG := Lib.hid (grown_trans (grown_trans (grown_trans hgr h1.2) h2.2) h3.2)
      clear hown hgr h1 h2 h3 hlen
      go_wp2
      go_roundw
      case rel =>
        have hl := HL.out
        have h1 := HS.out
        rw [imarks_three k j xs (by omega)] at h1
        exact ⟨j + 1, by omega, by go_num, by rw [show ((j + 1 : Nat) : Int) = (j : Int) + 1 from by omega, show (k : Int) + 3 * ((j : Int) + 1) = (k : Int) + 3 * j + 1 + 1 + 1 from by omega], h1, HG.out⟩
      case measure => simp [intOf]; omega
    · go_wp2
      go_ret
      have hjn : j = n := by omega
      subst hjn
      have hl := HL.out
      refine ⟨rfl, ?_, hgr⟩
      simpa [← hl] using hown

set_option maxRecDepth 100000 in
set_option maxHeartbeats 1000000 in
theorem heldEdgeS_any (A : Option Addr) (n c k : Nat) (w : World) (hn : k + 3 * n ≤ 1099511627776) (hrow : RowAt w A (imarks k (n * 3))) :
    Calls Try.prog 48 #[.slice A n c, .int .i64 k] w fun e w' => e = .returned (.int .i64 ((k : Int) + 3 * n)) ∧ w' = w := by
  have HO := Lib.hid hrow
  clear hrow
  go_enter Try.func48, Try.ntmps48
  go_wp2
  go_loop [1, 5] (fun kk i => ∃ j : Nat, j ≤ n ∧ i = .int .i64 j ∧ kk = .int .i64 ((k : Int) + 3 * j)) (fun _ i => n - (intOf i).toNat)
  case atStart => exact ⟨0, Nat.zero_le _, rfl, by simp⟩
  case round =>
    obtain ⟨j, hj, rfl, rfl⟩ := hrel
    by_cases hlt : j < n
    · obtain ⟨g, o, rfl, hg, hc⟩ := HO.out (by rw [imarks_length]; omega)
      have k0 := (hc (j * 3) (by rw [imarks_length]; omega)).trans (by rw [imarks_at])
      have k1 := (hc (j * 3 + 1) (by rw [imarks_length]; omega)).trans (by rw [imarks_at])
      have k2 := (hc (j * 3 + 2) (by rw [imarks_length]; omega)).trans (by rw [imarks_at])
      clear hc
      rw [show ((k + j * 3 : Nat) : Int) = (k : Int) + 3 * j from by omega] at k0
      rw [show ((k + (j * 3 + 1) : Nat) : Int) = (k : Int) + 3 * j + 1 from by omega, show o + (j * 3 + 1) = o + j * 3 + 1 from by omega] at k1
      rw [show ((k + (j * 3 + 2) : Nat) : Int) = (k : Int) + 3 * j + 1 + 1 from by omega, show o + (j * 3 + 2) = o + j * 3 + 2 from by omega] at k2
      have x0 : (((k : Int) + 3 * j) != ((k : Int) + 3 * j)) = false := by simp
      have x1 : (((k : Int) + 3 * j + 1) != ((k : Int) + 3 * j + 1)) = false := by simp
      have x2 : (((k : Int) + 3 * j + 1 + 1) != ((k : Int) + 3 * j + 1 + 1)) = false := by simp
      go_wp2
      go_round
      case rel => exact ⟨j + 1, by omega, by go_num, by rw [show ((j + 1 : Nat) : Int) = (j : Int) + 1 from by omega, show (k : Int) + 3 * ((j : Int) + 1) = (k : Int) + 3 * j + 1 + 1 + 1 from by omega]⟩
      case measure => simp [intOf]; omega
    · go_wp2
      go_ret
      have hjn : j = n := by omega
      subst hjn
      exact ⟨rfl, rfl⟩

end Go.Proofs.Ytdjaiijgdflopaa
