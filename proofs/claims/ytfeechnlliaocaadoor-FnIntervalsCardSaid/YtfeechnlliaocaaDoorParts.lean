/-
  WALKS of impl.joinParts, impl.Join.
-/
import Derived.Test.YtfeechnlliaocaaDoorProg
import Derived.Test.YtfeechnlliaocaaDoorDig
import Derived.Test.YtfeechnlliaocaaDoorMark
import Derived.Test.YtfeechnlliaocaaDoorJoin
import Derived.Test.YtfeechnlliaocaaDoorLib
namespace Go.Proofs.YtfeechnlliaocaaDoor
open Go.RowKit
set_option linter.unusedVariables false
set_option linter.unusedSimpArgs false

theorem bytes_of (x : ByteArray) : (⟨x.data.toList.toArray⟩ : ByteArray) = x := by
  apply ByteArray.ext; simp
theorem cells_join (x y : ByteArray) : Lib.byteCells x.data.toList ++ Lib.strCells y = Lib.byteCells (x ++ y).data.toList := by
  simp [Lib.byteCells, Lib.strCells]
theorem cells_len (x : ByteArray) : (Lib.byteCells x.data.toList).length = x.size := by simp [Lib.byteCells]

set_option maxRecDepth 100000 in
set_option maxHeartbeats 1000000 in
theorem impl_joinParts (ss : List ByteArray) (sep : ByteArray) (A : Option Addr) (n c : Nat) (w : World) (hn : ss.length = n) (hm : n ≤ 1048576) (hsep : sep.size ≤ 1048576) (hss : ∀ x ∈ ss, x.size ≤ 1048576) (hr : RowAt w A (ss.map Value.string)) :
    Calls Tryd.prog 25 #[.string sep, .slice A n c] w fun e w' => e = .returned (.string (joinB ss sep)) ∧ Below w.heap.size w w' := by
  have HR := Lib.hid hr
  have HL := Lib.hid hn
  have HS := Lib.hid hss
  clear hr hn hss
  go_enter Tryd.func25, Tryd.ntmps25
  go_wp2
  go_loopw [10] (fun i wr => ∃ (k : Nat) (y : ByteArray), k ≤ n ∧ i = .int .i64 k ∧ Hid (joinTo ss sep k = y) ∧ Lib.IsBuilderF 61 5 w.heap.size w.heap.size (Lib.byteCells y.data.toList) wr ∧ Below w.heap.size w wr) (fun i _ => n - (intOf i).toNat)
  case atStart => exact ⟨0, ⟨#[]⟩, Nat.zero_le _, rfl, Lib.hid rfl, Lib.IsBuilderF.of (Lib.fresh_isBuilder _ _ w), (Below.refl _ w).alloc (Nat.le_refl _) _⟩
  case round =>
    obtain ⟨k, y, hk, rfl, HY, hI, hbw⟩ := hrel
    by_cases hlt : k < n
    · have hl := HL.out
      obtain ⟨g, o, rfl, hg, hc⟩ := HR.out (by simp; omega)
      obtain ⟨x, h1, hx2⟩ : ∃ x : ByteArray, wr.cell? ⟨g, o + k, none⟩ = some (.string x) ∧ Hid (ss.getD k ⟨#[]⟩ = x) :=
        ⟨ss[k]'(by omega), (hbw.cell (p := ⟨g, o + k, none⟩) hg).trans ((hc k (by simp; omega)).trans (by rw [List.getElem_map])), Lib.hid (by rw [List.getD_eq_getElem?_getD, List.getElem?_eq_getElem (by omega)]; rfl)⟩
      have hxs : x.size ≤ 1048576 := by
        have := hx2.out
        rw [List.getD_eq_getElem?_getD, List.getElem?_eq_getElem (by omega)] at this
        exact HS.out x (by rw [← this]; exact List.getElem_mem _)
      have hys : y.size ≤ 2199023255552 := by
        have := joinTo_size ss sep hsep HS.out k
        rw [HY.out] at this
        omega
      clear hc hl
      have hstep : Hid (joinTo ss sep (k + 1) = (if 0 < k then y ++ sep else y) ++ x) := Lib.hid (by rw [joinTo, hx2.out, HY.out])
      clear hx2
      have HI := Lib.hid hI
      clear hI
      by_cases h0 : 0 < k
      · rw [if_pos h0] at hstep
        go_wp2_with fail
        refine (Builder_WriteString w.heap.size w.heap.size _ sep wr HI.out (by rw [cells_len]; omega) hbw.size).mono ?_
        rintro e w1 ⟨rfl, h2, b2, _⟩
        rw [cells_join] at h2
        have H2 := Lib.hid (Or.inr h2 : Lib.IsBuilderF 61 5 w.heap.size w.heap.size (Lib.byteCells (y ++ sep).data.toList) w1)
        have hb1 := hbw.trans b2
        clear h2 b2
        go_wp2_with fail
        refine (Builder_WriteString w.heap.size w.heap.size _ x w1 H2.out (by rw [cells_len, ByteArray.size_append]; omega) hb1.size).mono ?_
        rintro e w2 ⟨rfl, h3, b3, _⟩
        rw [cells_join] at h3
        have H3 := Lib.hid (Or.inr h3 : Lib.IsBuilderF 61 5 w.heap.size w.heap.size (Lib.byteCells (y ++ sep ++ x).data.toList) w2)
        have hb2 := hb1.trans b3
        clear h3 b3
        go_wp2
        go_roundw
        case rel => exact ⟨k + 1, _, by omega, by go_num, hstep, H3.out, hb2⟩
        case measure => simp [intOf]; omega
      · rw [if_neg h0] at hstep
        have hk0 : k = 0 := by omega
        subst hk0
        rw [Nat.add_zero] at h1
        go_wp2_with fail
        refine (Builder_WriteString w.heap.size w.heap.size _ x wr HI.out (by rw [cells_len]; omega) hbw.size).mono ?_
        rintro e w2 ⟨rfl, h3, b3, _⟩
        rw [cells_join] at h3
        have H3 := Lib.hid (Or.inr h3 : Lib.IsBuilderF 61 5 w.heap.size w.heap.size (Lib.byteCells (y ++ x).data.toList) w2)
        have hb2 := hbw.trans b3
        clear h3 b3
        go_wp2
        go_roundw
        case rel => exact ⟨1, _, by omega, by go_num, hstep, H3.out, hb2⟩
        case measure => simp [intOf]; omega
    · have hkn : k = n := by omega
      have HI := Lib.hid hI
      clear hI
      go_wp2_with fail
      refine (Builder_String w.heap.size w.heap.size _ wr HI.out hbw.size).mono ?_
      rintro e w1 ⟨rfl, _, b1, _⟩
      have hb1 := hbw.trans b1
      clear b1
      go_wp2
      go_ret
      subst hkn
      exact ⟨by unfold joinB; rw [HL.out, HY.out, bytes_of]; rfl, hb1⟩

end Go.Proofs.YtfeechnlliaocaaDoor
