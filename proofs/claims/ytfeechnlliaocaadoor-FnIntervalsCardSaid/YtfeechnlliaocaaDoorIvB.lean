/-
  WALKS of parseBound, l02Bound.
-/
import Derived.Test.YtfeechnlliaocaaDoorProg
import Derived.Test.YtfeechnlliaocaaDoorFmtI
import Derived.Test.YtfeechnlliaocaaDoorParts
import Derived.Test.YtfeechnlliaocaaDoorIvT
import Derived.Test.YtfeechnlliaocaaDoorIvC
import Derived.Test.YtfeechnlliaocaaDoorIvF
import Derived.Test.YtfeechnlliaocaaDoorParseW
import Derived.Test.YtfeechnlliaocaaDoorParseS
import Derived.Test.YtfeechnlliaocaaDoorCut
import Derived.WalkKit
import Derived.WalkSpells
import Derived.WalkLawsBesides
import Derived.Deep.QuietTactic
import Derived.Deep.RegionWith
import Derived.Deep.RegionHeld3
import Derived.BigQuiet
import Derived.Lib.Hide
import Derived.Below
namespace Go.Proofs.YtfeechnlliaocaaDoor
open Go.RowKit
set_option linter.unusedVariables false
set_option linter.unusedSimpArgs false

theorem inf_list : infB.toList = [105, 110, 102] := (Lib.toList_data _).trans rfl
theorem minf_list : minfB.toList = [45, 105, 110, 102] := (Lib.toList_data _).trans rfl

theorem same_b (s : ByteArray) : (s.toList == s.toList) = true := by simp
theorem other_b {s t : ByteArray} (h : ¬ s = t) : (s.toList == t.toList) = false := by
  simp only [beq_eq_false_iff_ne, ne_eq]
  rw [Lib.toList_data, Lib.toList_data]
  intro e
  exact h (by apply ByteArray.ext; apply Array.toList_inj.1; exact e)

set_option maxRecDepth 100000 in
set_option maxHeartbeats 1000000 in
theorem impl_parseBound (s : ByteArray) (w : World) (hs : s.size ≤ 1048576) (ht : Pow10 w) (he : Errs w) :
    Calls Tryd.prog 24 #[.string s] w fun e w' => e = .returned (.int .i64 ((readB s).getD 0)) ∧ Below w.heap.size w w' := by
  by_cases ha : s = infB
  · subst ha
    rw [show readB infB = some 1000000 from rfl]
    have e1 : (infB.toList == infB.toList) = true := same_b _
    have e2 : (infB.toList == minfB.toList) = false := other_b (by decide)
    unfold infB at e1 e2 ⊢
    unfold minfB at e2
    go_enter Tryd.func24, Tryd.ntmps24
    go_wp2
    go_ret
    exact ⟨rfl, Below.refl _ _⟩
  · by_cases hb : s = minfB
    · subst hb
      rw [show readB minfB = some (-1000000) from rfl]
      have e1 : (minfB.toList == minfB.toList) = true := same_b _
      have e2 : (minfB.toList == infB.toList) = false := other_b (by decide)
      unfold minfB at e1 e2 ⊢
      unfold infB at e2
      go_enter Tryd.func24, Tryd.ntmps24
      go_wp2
      go_ret
      exact ⟨rfl, Below.refl _ _⟩
    · rw [show readB s = parseOf s from by unfold readB; rw [if_neg ha, if_neg hb]]
      have e1 : (s.toList == infB.toList) = false := other_b ha
      have e2 : (s.toList == minfB.toList) = false := other_b hb
      rw [inf_list] at e1
      rw [minf_list] at e2
      have HT := Lib.hid ht
      have HE := Lib.hid he
      clear ht he
      clear ha hb
      go_enter Tryd.func24, Tryd.ntmps24
      go_wp2_with fail
      refine (impl_ParseInt s _ hs HT.out HE.out).mono ?_
      rintro e w1 ⟨rfl, b1⟩
      go_wp2
      go_ret
      exact ⟨rfl, b1⟩

set_option maxRecDepth 100000 in
set_option maxHeartbeats 1000000 in
theorem spec_l02Bound (s : ByteArray) (w : World) (hs : s.size ≤ 1048576) :
    Calls Tryd.prog 34 #[.string s] w fun e w' => e = .returned (.tuple #[.int .i64 ((readB s).getD 0), .bool (readB s).isSome]) ∧ Below w.heap.size w w' := by
  by_cases ha : s = infB
  · subst ha
    rw [show readB infB = some 1000000 from rfl]
    have e1 : (infB.toList == infB.toList) = true := same_b _
    have e2 : (infB.toList == minfB.toList) = false := other_b (by decide)
    unfold infB at e1 e2 ⊢
    unfold minfB at e2
    go_enter Tryd.func34, Tryd.ntmps34
    go_wp2
    go_ret2
    exact ⟨rfl, Below.refl _ _⟩
  · by_cases hb : s = minfB
    · subst hb
      rw [show readB minfB = some (-1000000) from rfl]
      have e1 : (minfB.toList == minfB.toList) = true := same_b _
      have e2 : (minfB.toList == infB.toList) = false := other_b (by decide)
      unfold minfB at e1 e2 ⊢
      unfold infB at e2
      go_enter Tryd.func34, Tryd.ntmps34
      go_wp2
      go_ret2
      exact ⟨rfl, Below.refl _ _⟩
    · rw [show readB s = parseOf s from by unfold readB; rw [if_neg ha, if_neg hb]]
      have e1 : (s.toList == infB.toList) = false := other_b ha
      have e2 : (s.toList == minfB.toList) = false := other_b hb
      rw [inf_list] at e1
      rw [minf_list] at e2
      clear ha hb
      go_enter Tryd.func34, Tryd.ntmps34
      go_wp2_with fail
      refine (spec_ParseInt s _ hs).mono ?_
      rintro e w1 ⟨rfl, b1⟩
      go_wp2
      go_ret2
      exact ⟨rfl, b1⟩

end Go.Proofs.YtfeechnlliaocaaDoor
