/-
  WALKS of markEdgeS, markGraph.
-/
import Derived.Test.YtdjaiijgdflopaaGrN
namespace Go.Proofs.Ytdjaiijgdflopaa
open Go.RowKit Go.ChangeShapes Go.WideShapes Go.ChangeAt Go.WideMaps Go.WideElems
set_option linter.unusedVariables false
set_option linter.unusedSimpArgs false

set_option maxRecDepth 100000 in
set_option maxHeartbeats 2000000 in
theorem markEdgeS_any (A : Option Addr) (n c B k : Nat) (xs : List Value) (w : World) (hn : k + 3 * n ≤ 1099511627776) (hown : w.ownsRow B 35 3 (.slice A n c) n xs) :
    Calls Try.prog 47 #[.slice A n c, .int .i64 k] w fun e w' => e = .returned (.int .i64 ((k : Int) + 3 * n)) ∧ w.grownBy w' (Value.slice A n c).ownBlock := by
  have HO := Lib.hid hown
  clear hown
  go_enter Try.func47, Try.ntmps47
  go_wp2
  go_loopw [1, 5] (fun kk i wr => ∃ j : Nat, j ≤ n ∧ i = .int .i64 j ∧ kk = .int .i64 ((k : Int) + 3 * j) ∧ (∃ xs, wr.ownsRow B 35 3 (.slice A n c) n xs) ∧ w.grownBy wr (Value.slice A n c).ownBlock) (fun _ i _ => n - (intOf i).toNat)
  case atStart => exact ⟨0, Nat.zero_le _, rfl, by simp, ⟨_, HO.out⟩, World.grownBy.refl _ _⟩
  case round =>
    obtain ⟨j, hj, rfl, rfl, ⟨xs, hown⟩, hgr⟩ := hrel
    by_cases hlt : j < n
    · obtain ⟨g, cap, hA, hBg, hg⟩ := hown.form (by omega)
      obtain ⟨rfl, rfl⟩ : A = some ⟨g, 0, none⟩ ∧ c = cap := by simpa using hA
      clear hA
      have hlen : xs.length = n * 3 := hown.1
      obtain ⟨y0, hy0⟩ : ∃ y, wr.cell? ⟨g, j * 3, none⟩ = some y := ⟨_, (hown.cellAt (j * 3) (by omega)).trans (List.getElem?_eq_getElem (by omega))⟩
      obtain ⟨y1, hy1⟩ : ∃ y, wr.cell? ⟨g, j * 3 + 1, none⟩ = some y := ⟨_, (hown.cellAt (j * 3 + 1) (by omega)).trans (List.getElem?_eq_getElem (by omega))⟩
      obtain ⟨y2, hy2⟩ : ∃ y, wr.cell? ⟨g, j * 3 + 2, none⟩ = some y := ⟨_, (hown.cellAt (j * 3 + 2) (by omega)).trans (List.getElem?_eq_getElem (by omega))⟩
      have f0 := hown.frozenAt (j * 3)
      have f1 := hown.frozenAt (j * 3 + 1)
      have f2 := hown.frozenAt (j * 3 + 2)
      have h1 := hown.stored (j * 3) (.int .i64 ((k : Int) + 3 * j))
      have h2 := h1.1.stored (j * 3 + 1) (.int .i64 ((k : Int) + 3 * j + 1))
      have h3 := h2.1.stored (j * 3 + 2) (.int .i64 ((k : Int) + 3 * j + 1 + 1))
      have HS := Lib.hid h3.1
      have HG := Lib.hid (grown_trans (grown_trans (grown_trans hgr h1.2) h2.2) h3.2)
      clear hown hgr h1 h2 h3 hlen
      go_wp2
      go_roundw
      case rel => exact ⟨j + 1, by omega, by go_num, by rw [show ((j + 1 : Nat) : Int) = (j : Int) + 1 from by omega, show (k : Int) + 3 * ((j : Int) + 1) = (k : Int) + 3 * j + 1 + 1 + 1 from by omega], ⟨_, HS.out⟩, HG.out⟩
      case measure => simp [intOf]; omega
    · go_wp2
      go_ret
      have hjn : j = n := by omega
      subst hjn
      exact ⟨rfl, hgr⟩

set_option maxRecDepth 100000 in
set_option maxHeartbeats 1000000 in
theorem markGraph_any (N : Int) (A : Option Addr) (n c B k : Nat) (xs : List Value) (w : World) (hn : k + 3 * n ≤ 1099511627776) (hown : w.ownsRow B 35 3 (.slice A n c) n xs) :
    Calls Try.prog 36 #[grV N A n c, .int .i64 k] w fun e w' => e = .returned (.int .i64 ((k : Int) + 3 * n)) ∧ (w.alloc (.cells #[.int .i64 N, .slice A n c] 25)).grownBy w' (Value.slice A n c).ownBlock := by
  unfold grV
  have HM := Lib.hid (fun W h => markEdgeS_any A n c B k xs W hn h)
  have HO := Lib.hid (hown.alloc (.cells #[.int .i64 N, .slice A n c] 25))
  clear hown
  go_enter Try.func36, Try.ntmps36
  go_wp2_with (go_at_call 47; refine (HM.out _ HO.out).mono ?_; rintro x w1 ⟨rfl, hg⟩)
  go_ret
  exact ⟨rfl, hg⟩

end Go.Proofs.Ytdjaiijgdflopaa
