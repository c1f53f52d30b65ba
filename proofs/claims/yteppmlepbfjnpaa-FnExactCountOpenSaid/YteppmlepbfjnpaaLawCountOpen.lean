/-
  laws.FnExactCountOpen HOLDS: whatever the argument, impl.CountOpen answers as spec.CountOpen does, and the argument reads as it did. No condition.
-/
import Derived.Test.YteppmlepbfjnpaaRows
import Derived.Test.YteppmlepbfjnpaaFrame
import Derived.Test.YteppmlepbfjnpaaBdSmF
import Derived.Test.YteppmlepbfjnpaaBdIvOk
import Derived.Test.YteppmlepbfjnpaaImP
import Derived.Deep.RegionHeld3
import Derived.Deep.CutRange
import Derived.ProofKit
import Derived.Lib.SmallJoins
namespace Go.Proofs.Yteppmlepbfjnpaa
open Go.RowKit Go.ChangeShapes Go.WideShapes Go.ChangeAt Go.WideMaps Go.WideElems
set_option linter.unusedVariables false
set_option linter.unusedSimpArgs false

theorem toIntS_sl (zs : List Int) (A : Option Addr) (n c : Nat) (w : World) (hn : zs.length = n) (hm : n ≤ 1099511627776) (hr : RowAt w A (zs.map intV)) :
    Calls Try.prog 28 #[.slice A n c] w fun e w' => ∃ A' c', e = .returned (.slice A' n c') ∧ w'.ownsRow w.heap.size 3 1 (.slice A' n c') n (zs.map intV) ∧ Below w.heap.size w w' :=
  (toIntS_any zs A n c w hn hm hr).mono fun e w' ⟨v, e1, o, b⟩ => by
    obtain ⟨A', c', rfl, _, _⟩ := own_form o
    exact ⟨A', c', e1, o, b⟩
theorem eqIntS_sl (zs : List Int) (A B : Option Addr) (n ca cb : Nat) (w : World) (hn : zs.length = n) (hm : n ≤ maxLen) (ha : RowAt w A (zs.map intV)) (hb : RowAt w B (zs.map intV)) :
    Calls Try.prog 30 #[.slice A n ca, .slice B n cb] w fun e w' => e = .returned (.bool true) ∧ Below w.heap.size w w' :=
  (eqIntS_same zs A B n ca cb w hn hm ha hb).mono fun e w' ⟨h1, r, h2⟩ => ⟨h1, by rw [h2]; exact below_drewN (Below.refl _ _) r⟩

set_option maxRecDepth 100000 in
set_option maxHeartbeats 16000000 in
theorem FnExactCountOpen_walk (ts : List Int) (T : Option Addr) (m d : Nat) (w : World) (hzl : ts.length = m) (hzm : m ≤ maxLen) (hz : RowAt w T (ts.map intV)) :
    Calls Try.prog 10 #[.slice T m d] w fun e w' => e = .returned (.bool true) ∧ Below w.heap.size w w' := by
  have HT := Lib.hid hz
  have HM := Lib.hid hzl
  have hzm2 := hzm
  unfold maxLen at hzm2
  clear hz hzl hzm
  by_cases hlong : m ≤ 1048576
  · have hl1 : ¬ ((1048576 : Int) < m) := by omega
    have HTI := Lib.hid (fun W h' => toIntS_sl ts T m d W HM.out (by omega) h')
    have HEZ := Lib.hid (fun A1 A2 c1 c2 W h1 h2 => eqIntS_sl ts A1 A2 m c1 c2 W HM.out (by unfold maxLen; omega) h1 h2)
    have HSP := Lib.hid (fun T' d' W h2 => spec_CountOpen ts T' m d' W HM.out hlong h2)
    have HIM := Lib.hid (fun T' d' W h2 => impl_CountOpen ts T' m d' W HM.out hlong h2)
    obtain ⟨q, hq⟩ : ∃ t, t = cntR ts := ⟨_, rfl⟩
    rw [← hq] at HSP HIM
    have hoo : ((q : Int) != q) = false := by simp
    clear hq
    go_enter Try.func10, Try.ntmps10
    go_wp2_with fail
    refine (HTI.out _ HT.out).mono ?_
    rintro e w1 ⟨T1, d1, rfl, h1, b1⟩
    go_wp2_with fail
    refine (HSP.out T1 d1 _ (own_row h1)).mono ?_
    rintro e w2 ⟨rfl, b2⟩
    have B2 : Below w.heap.size w w2 := b1.trans (b2.mono b1.size)
    clear h1 b1 b2
    go_wp2_with fail
    refine (HTI.out _ (HT.out.below B2)).mono ?_
    rintro e w3 ⟨T3, d3, rfl, h3, b3⟩
    have B3 : Below w.heap.size w w3 := B2.trans (b3.mono B2.size)
    clear b3
    go_wp2_with fail
    refine (HIM.out T3 d3 _ (own_row h3)).mono ?_
    rintro e w4 ⟨rfl, b4⟩
    have B4 : Below w.heap.size w w4 := B3.trans (b4.mono B3.size)
    have h4 := own_below h3 b4
    clear h3 b4
    go_wp2_with fail
    refine (HTI.out _ (HT.out.below B4)).mono ?_
    rintro e w5 ⟨T5, d5, rfl, h5, b5⟩
    have B5 : Below w.heap.size w w5 := B4.trans (b5.mono B4.size)
    have h6 := own_below h4 b5
    clear h4 b5
    go_wp2_with fail
    refine (HEZ.out T3 T5 d3 d5 _ (own_row h6) (own_row h5)).mono ?_
    rintro e w6 ⟨rfl, b6⟩
    go_wp2_with fail
    go_ret
    exact ⟨rfl, B5.trans (b6.mono B5.size)⟩
  · have hl1 : ((1048576 : Int) < m) := by omega
    go_enter Try.func10, Try.ntmps10
    go_wp2_with fail
    go_ret
    exact ⟨rfl, Below.refl _ _⟩

/-! ### FnExactCountOpen: the row -/

set_option maxRecDepth 100000 in
theorem FnExactCountOpen_lifted (os : Os) (started : os.Started) (H : Type) (enc : TypeId × Value → H) :
    ReturnsInHanded {} Try.checked os 10 .any (Rows.fnExactCountOpenSpec.pre6 enc Try.prog Try.f10 Rows.fnExactCountOpenRow.domain false) (Rows.fnExactCountOpenSpec.post enc Try.prog Try.f10 false true false false) := by
  refine returnsInHanded_of_change (C := Try.checked) (by kernel_rfl) started (by kernel_rfl) Try.func10
    (ChangeSpec.witness6 (enc := enc) (C := Try.checked) false ⟨#[], #[.slice none 0 0], []⟩ 8 (by kernel_rfl) (by kernel_rfl) (by kernel_rfl) (by kernel_rfl)) ?_
  intro W base args ds gs before hval0 hW hcnd _
  have hval : ∀ (j : Nat) t v, Try.f10.params[j]? = some t → args[j]? = some v → Value.okWide Try.prog W .any base t v := hval0
  have hW2 := hW
  obtain ⟨p, q, hA0, hV, hpq, hfz, hnd⟩ := hW2
  have hA : DataW.TrodAll enc Try.prog W 0 (fun _ => true) true Try.f10.params.toList args.toList ds p := hA0
  rw [Try.params10] at hA hval
  obtain ⟨v0, d0, hargs, hds, h0⟩ := trodAll_one hA
  obtain ⟨hgs, hq⟩ := trodVars_none hV
  subst hargs
  subst hds
  subst hgs
  obtain ⟨s1, l1, c1, rfl⟩ := okWide_slice Try.underlying33 (hval 0 33 v0 rfl rfl)
  obtain ⟨fuel1, hf1⟩ := h0
  obtain ⟨zs1, hzl1, hzm1, hzw1, hzr1⟩ := ints_in Try.underlying33 Try.underlying3 cells_int1 hf1
  refine (FnExactCountOpen_walk zs1 s1 l1 c1 W hzl1 hzm1 hzr1).mono fun e W2 ⟨he, hb⟩ => ?_
  subst he
  exact ⟨_, rfl, law_post (by kernel_rfl) (by rw [Try.params10]; decide +kernel) (by kernel_rfl) Try.underlying4 rfl ⟨rfl, rfl, rfl⟩ hW hb⟩

theorem FnExactCountOpen_holds : Rows.FnExactCountOpenSaid :=
  OpenClaim.holds_of_wide 10 Try.f10 rfl rfl rfl rfl rfl rfl rfl ⟨rfl, rfl, rfl, rfl, rfl⟩ rfl rfl rfl rfl rfl (by kernel_rfl) Try.func10 (by kernel_rfl)
    (of_decide_eq_true (by kernel_rfl)) (by unfold Func.isWrapper; first | (rw [if_pos (by decide +kernel)]; kernel_rfl) | (rw [if_neg (by decide +kernel)]; exact ⟨rfl, rfl⟩))
    (fun os started H enc _ => FnExactCountOpen_lifted os started H enc)

end Go.Proofs.Yteppmlepbfjnpaa

