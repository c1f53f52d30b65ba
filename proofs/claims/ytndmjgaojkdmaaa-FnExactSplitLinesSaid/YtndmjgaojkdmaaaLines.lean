/-
  WALKS of spec.SplitLines and impl.SplitLines.
-/
import Derived.Test.YtndmjgaojkdmaaaProg
import Derived.Test.YtndmjgaojkdmaaaDig
import Derived.Test.YtndmjgaojkdmaaaSplit
import Derived.Test.YtndmjgaojkdmaaaMark
namespace Go.Proofs.Ytndmjgaojkdmaaa
open Go.RowKit
set_option linter.unusedVariables false
set_option linter.unusedSimpArgs false

def lines (s : ByteArray) : List ByteArray :=
  if (s.extract (splitTo s ⟨#[10]⟩ s.size).2 s.size).size = 0 then (splitTo s ⟨#[10]⟩ s.size).1 else split s ⟨#[10]⟩

/-- An owned slice of one element or more: its form, its cells, its heads. -/
theorem own_cut {w : World} {B e n : Nat} {v : Value} {xs : List Value} (h : w.ownsRow B e 1 v n xs) (hn : 0 < n) :
    ∃ g c, v = .slice (some ⟨g, 0, none⟩) n c ∧ n ≤ c ∧ (∀ m, m ≤ n → w.ownsRow B e 1 (.slice (some ⟨g, 0, none⟩) m c) m (xs.take m)) ∧ ∀ j, j < n → w.cell? ⟨g, j, none⟩ = xs[j]? := by
  have hl : xs.length = n := by simpa using h.1
  obtain ⟨g', cap', hv', _, _⟩ := h.form hn
  have hcells : ∀ j, j < n → w.cell? ⟨g', j, none⟩ = xs[j]? := by
    subst hv'
    exact fun j hj => h.cellAt j (by omega)
  rcases h.2 with ⟨_, h0⟩ | ⟨g, cap, cur, hv, hb, hg, hnc, hcm, hcs, ht⟩
  · omega
  · rw [hv] at hv'
    injection hv' with h1 h2 h3
    obtain rfl : g = g' := by injection h1 with h1; injection h1
    refine ⟨g, cap, hv, hnc, fun m hm => ⟨by simp; omega, .inr ⟨g, cap, cur, rfl, hb, hg, by omega, hcm, hcs, ?_⟩⟩, hcells⟩
    rw [← ht, List.take_take]
    congr 1
    omega

set_option maxHeartbeats 400000 in
theorem spec_SplitLines (s : ByteArray) (w : World) (hs : s.size ≤ 1048576) :
    Calls Try.prog 18 #[.string s] w fun e w' => ∃ v, e = .returned v ∧ w'.ownsRow w.heap.size 9 1 v (lines s).length ((lines s).map Value.string) ∧ Below w.heap.size w w' := by
  obtain ⟨P, hP⟩ : ∃ P, P = (splitTo s ⟨#[10]⟩ s.size).1 := ⟨_, rfl⟩
  obtain ⟨x, hx⟩ : ∃ x, x = s.extract (splitTo s ⟨#[10]⟩ s.size).2 s.size := ⟨_, rfl⟩
  have hsp : split s ⟨#[10]⟩ = P ++ [x] := by rw [hP, hx]; rfl
  have hli : lines s = if x.size = 0 then P else P ++ [x] := by unfold lines; rw [hsp, hx, hP]
  have hl := split_len s ⟨#[10]⟩
  rw [hsp] at hl
  have hm : P.length ≤ 1048576 := by simp at hl; omega
  have HS := Lib.hid hsp
  have HLI := Lib.hid hli
  clear hsp hli hl hP hx
  obtain ⟨m, hm2⟩ : ∃ m, m = P.length := ⟨_, rfl⟩
  have HM := Lib.hid hm2
  have hm3 : m ≤ 1048576 := by omega
  clear hm hm2
  by_cases hxe : x.size = 0
  · have hxl : x.toList = [] := by
      rw [Lib.toList_data]
      have : x.data.toList.length = 0 := by simpa using hxe
      exact List.eq_nil_of_length_eq_zero this
    rw [if_pos hxe] at HLI
    have HXL := Lib.hid hxl
    clear hxe hxl
    go_enter Try.func18, Try.ntmps18
    go_wp2_with fail
    refine (spec_SplitAny s ⟨#[10]⟩ w hs (by decide)).mono ?_
    rintro e w1 ⟨v, rfl, h1, b1⟩
    rw [HS.out, List.length_append, ← HM.out] at h1
    obtain ⟨g, cap, hv, hn, hcut, hcells⟩ := own_cut h1 (by simp)
    subst hv
    have hcell := hcells m (by simp)
    have hcell2 : w1.cell? ⟨g, m, none⟩ = some (.string x) := by
      rw [hcell, List.map_append, List.getElem?_append_right (by simp [HM.out])]
      simp [HM.out]
    have H1 := Lib.hid (hcut m (by simp))
    clear h1 hcut hcells hcell
    have hemp : x.toList.isEmpty = true := by rw [HXL.out]; rfl
    simp only [List.length_singleton] at hn ⊢
    go_wp2
    go_ret
    refine ⟨_, rfl, ?_, b1⟩
    have h2 := H1.out
    rw [HLI.out, ← HM.out]
    rw [List.map_append, List.take_append_of_le_length (by simp [HM.out]), List.take_of_length_le (by simp [HM.out])] at h2
    exact h2
  · rw [if_neg hxe] at HLI
    have hxl : x.toList.isEmpty = false := by
      rw [Lib.toList_data]
      cases hh : x.data.toList with
      | nil =>
        have : x.data.toList.length = x.size := by simp
        rw [hh] at this
        exact absurd this.symm hxe
      | cons a t => rfl
    have HXL := Lib.hid hxl
    clear hxe hxl
    go_enter Try.func18, Try.ntmps18
    go_wp2_with fail
    refine (spec_SplitAny s ⟨#[10]⟩ w hs (by decide)).mono ?_
    rintro e w1 ⟨v, rfl, h1, b1⟩
    rw [HS.out, List.length_append, ← HM.out] at h1
    obtain ⟨g, cap, hv, hn, hcut, hcells⟩ := own_cut h1 (by simp)
    subst hv
    have hcell := hcells m (by simp)
    have hcell2 : w1.cell? ⟨g, m, none⟩ = some (.string x) := by
      rw [hcell, List.map_append, List.getElem?_append_right (by simp [HM.out])]
      simp [HM.out]
    have H1 := Lib.hid h1
    clear h1 hcut hcells hcell
    have hemp := HXL.out
    go_wp2
    go_ret
    refine ⟨_, rfl, ?_, b1⟩
    have h2 := H1.out
    rw [HLI.out, List.length_append, ← HM.out]
    exact h2

set_option maxHeartbeats 400000 in
theorem impl_SplitLines (s : ByteArray) (w : World) (hs : s.size ≤ 1048576) :
    Calls Try.prog 19 #[.string s] w fun e w' => ∃ v, e = .returned v ∧ w'.ownsRow w.heap.size 9 1 v (lines s).length ((lines s).map Value.string) ∧ Below w.heap.size w w' := by
  obtain ⟨P, hP⟩ : ∃ P, P = (splitTo s ⟨#[10]⟩ s.size).1 := ⟨_, rfl⟩
  obtain ⟨x, hx⟩ : ∃ x, x = s.extract (splitTo s ⟨#[10]⟩ s.size).2 s.size := ⟨_, rfl⟩
  have hsp : split s ⟨#[10]⟩ = P ++ [x] := by rw [hP, hx]; rfl
  have hli : lines s = if x.size = 0 then P else P ++ [x] := by unfold lines; rw [hsp, hx, hP]
  have hl := split_len s ⟨#[10]⟩
  rw [hsp] at hl
  have hm : P.length ≤ 1048576 := by simp at hl; omega
  have HS := Lib.hid hsp
  have HLI := Lib.hid hli
  clear hsp hli hl hP hx
  obtain ⟨m, hm2⟩ : ∃ m, m = P.length := ⟨_, rfl⟩
  have HM := Lib.hid hm2
  have hm3 : m ≤ 1048576 := by omega
  clear hm hm2
  by_cases hxe : x.size = 0
  · have hxl : x.toList = [] := by
      rw [Lib.toList_data]
      have : x.data.toList.length = 0 := by simpa using hxe
      exact List.eq_nil_of_length_eq_zero this
    rw [if_pos hxe] at HLI
    have HXL := Lib.hid hxl
    clear hxe hxl
    go_enter Try.func19, Try.ntmps19
    go_wp2_with fail
    refine (impl_SplitAny s ⟨#[10]⟩ w hs (by decide)).mono ?_
    rintro e w1 ⟨v, rfl, h1, b1⟩
    rw [HS.out, List.length_append, ← HM.out] at h1
    obtain ⟨g, cap, hv, hn, hcut, hcells⟩ := own_cut h1 (by simp)
    subst hv
    have hcell := hcells m (by simp)
    have hcell2 : w1.cell? ⟨g, m, none⟩ = some (.string x) := by
      rw [hcell, List.map_append, List.getElem?_append_right (by simp [HM.out])]
      simp [HM.out]
    have H1 := Lib.hid (hcut m (by simp))
    clear h1 hcut hcells hcell
    have hemp : x.toList.isEmpty = true := by rw [HXL.out]; rfl
    simp only [List.length_singleton] at hn ⊢
    go_wp2
    go_ret
    refine ⟨_, rfl, ?_, b1⟩
    have h2 := H1.out
    rw [HLI.out, ← HM.out]
    rw [List.map_append, List.take_append_of_le_length (by simp [HM.out]), List.take_of_length_le (by simp [HM.out])] at h2
    exact h2
  · rw [if_neg hxe] at HLI
    have hxl : x.toList.isEmpty = false := by
      rw [Lib.toList_data]
      cases hh : x.data.toList with
      | nil =>
        have : x.data.toList.length = x.size := by simp
        rw [hh] at this
        exact absurd this.symm hxe
      | cons a t => rfl
    have HXL := Lib.hid hxl
    clear hxe hxl
    go_enter Try.func19, Try.ntmps19
    go_wp2_with fail
    refine (impl_SplitAny s ⟨#[10]⟩ w hs (by decide)).mono ?_
    rintro e w1 ⟨v, rfl, h1, b1⟩
    rw [HS.out, List.length_append, ← HM.out] at h1
    obtain ⟨g, cap, hv, hn, hcut, hcells⟩ := own_cut h1 (by simp)
    subst hv
    have hcell := hcells m (by simp)
    have hcell2 : w1.cell? ⟨g, m, none⟩ = some (.string x) := by
      rw [hcell, List.map_append, List.getElem?_append_right (by simp [HM.out])]
      simp [HM.out]
    have H1 := Lib.hid h1
    clear h1 hcut hcells hcell
    have hemp := HXL.out
    go_wp2
    go_ret
    refine ⟨_, rfl, ?_, b1⟩
    have h2 := H1.out
    rw [HLI.out, List.length_append, ← HM.out]
    exact h2

end Go.Proofs.Ytndmjgaojkdmaaa
