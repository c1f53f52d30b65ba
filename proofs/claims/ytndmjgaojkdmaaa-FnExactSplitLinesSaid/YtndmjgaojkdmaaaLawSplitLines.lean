/-
  laws.FnExactSplitLines HOLDS: whatever the string, impl.SplitLines hands back the lines that spec.SplitLines does, in memory of its own, and the string reads as it did. No condition.
-/
import Derived.Test.YtndmjgaojkdmaaaRows
import Derived.Test.YtndmjgaojkdmaaaFrame
import Derived.Test.YtndmjgaojkdmaaaDig
import Derived.Test.YtndmjgaojkdmaaaSplit
import Derived.Test.YtndmjgaojkdmaaaMark
import Derived.Test.YtndmjgaojkdmaaaLines
import Derived.ProofKit
namespace Go.Proofs.Ytndmjgaojkdmaaa
open Go.RowKit Go.ChangeShapes Go.WideShapes Go.ChangeAt Go.WideMaps Go.WideElems
open Go.ChangeMaps (open_string shut_string)
set_option linter.unusedVariables false
set_option linter.unusedSimpArgs false

theorem lines_len (s : ByteArray) : (lines s).length ≤ s.size + 1 := by
  have h1 := split_len s ⟨#[10]⟩
  have h2 := (splitTo_le s ⟨#[10]⟩ s.size).2
  unfold lines
  split <;> omega

set_option maxHeartbeats 1000000 in
theorem FnExactSplitLines_walk (s : ByteArray) (w : World) (hs : s.size ≤ maxLen) :
    Calls Try.prog 6 #[.string s] w fun e w' => e = .returned (.bool true) ∧ Below w.heap.size w w' := by
  have hs2 := hs
  unfold maxLen at hs2
  by_cases h : s.size ≤ 1048576
  · by_cases hq : True
    · have hlen := lines_len s
      obtain ⟨n, hn⟩ : ∃ n, n = (lines s).length := ⟨_, rfl⟩
      have HN := Lib.hid hn
      have hn2 : n ≤ 1048577 := by omega
      clear hlen hn
      go_enter Try.func6, Try.ntmps6
      go_wp2_with fail
      refine (spec_SplitLines s w h).mono ?_
      rintro e w1 ⟨v0, rfl, h0, b0⟩
      rw [← HN.out] at h0
      obtain ⟨A0, c0, hv0, hl0, r0⟩ := own_form h0
      subst hv0
      go_wp2_with fail
      refine (impl_SplitLines s w1 h).mono ?_
      rintro e w2 ⟨v1, rfl, h1, b1⟩
      rw [← HN.out] at h1
      obtain ⟨A1, c1, hv1, hl1, r1⟩ := own_form h1
      subst hv1
      have h0b := own_below h0 b1
      have r0b := r0.below b1
      have B2 : Below w.heap.size w w2 := b0.trans (b1.mono b0.size)
      clear hl0 hl1
      have R0 := Lib.hid r0b
      have R1 := Lib.hid r1
      clear r0 r0b r1
      go_wp2_with fail
      refine (eqStringS_same (lines s) A1 A0 n c1 c0 _ HN.out.symm (by unfold maxLen; omega) R1.out R0.out).mono ?_
      rintro e w3 ⟨rfl, q, rfl⟩
      go_wp2_with fail
      refine (markStringS_any A1 n c1 w1.heap.size 1 _ (w2.drewN q) (by omega) (by omega) h1).mono ?_
      rintro e w4 ⟨rfl, h4, g4⟩
      have ap := own_apart h0 h1 (Nat.le_refl _)
      have k0 : w4.ownsRow w.heap.size 9 1 (.slice A0 n c0) n ((lines s).map Value.string) := World.ownsRow.kept (w := w2.drewN q) h0b g4 ap
      have B4 : Below w.heap.size w w4 := (below_drewN B2 q).grown g4 B2.size (fun g hg => Nat.le_trans b0.size (h1.lt g hg).1)
      have K0 := Lib.hid k0
      have H4 := Lib.hid h4
      clear h0 h1 h0b ap g4 b0 b1 B2 R0 R1 k0 h4
      go_wp2_with fail
      refine (heldStringS_any A1 n c1 1 w4 (by omega) (by omega) (own_row H4.out)).mono ?_
      rintro e w5 ⟨rfl, b5⟩
      have h5 := Lib.hid (own_below H4.out b5)
      have k5 := Lib.hid (own_below K0.out b5)
      have B5 : Below w.heap.size w w5 := B4.trans (b5.mono B4.size)
      clear H4 K0 b5
      have hne : ((1 + (n : Int)) != (1 + (n : Int))) = false := by simp
      go_wp2_with fail
      refine (impl_SplitLines s w5 h).mono ?_
      rintro e w6 ⟨v2, rfl, h2, b6⟩
      rw [← HN.out] at h2
      obtain ⟨A2, c2, hv2, hl2, r2⟩ := own_form h2
      subst hv2
      have h6 := Lib.hid (own_row (own_below h5.out b6))
      have k6 := Lib.hid (own_row (own_below k5.out b6))
      have B6 : Below w.heap.size w w6 := B5.trans (b6.mono B5.size)
      have R2 := Lib.hid r2
      clear h5 k5 b6 h2 hl2 r2
      go_wp2_with fail
      refine (eqStringS_same (lines s) A2 A0 n c2 c0 _ HN.out.symm (by unfold maxLen; omega) R2.out k6.out).mono ?_
      rintro e w7 ⟨rfl, q7, rfl⟩
      go_wp2_with fail
      refine (heldStringS_any A1 n c1 1 (w6.drewN q7) (by omega) (by omega) (h6.out.of_heap rfl)).mono ?_
      rintro e w8 ⟨rfl, b8⟩
      have B8 : Below w.heap.size w w8 := (below_drewN B6 q7).trans (Below.mono b8 B6.size)
      clear b8
      go_wp2
      go_ret
      exact ⟨rfl, B8⟩
    · exact absurd trivial hq
  · go_enter Try.func6, Try.ntmps6
    go_wp2
    go_ret
    exact ⟨rfl, Below.refl _ _⟩

/-! ### FnExactSplitLines: the row -/

set_option maxRecDepth 100000 in
theorem FnExactSplitLines_lifted (os : Os) (started : os.Started) (H : Type) (enc : TypeId × Value → H) :
    ReturnsInHanded {} Try.checked os 6 .any (Rows.fnExactSplitLinesSpec.pre6 enc Try.prog Try.f6 Rows.fnExactSplitLinesRow.domain false) (Rows.fnExactSplitLinesSpec.post enc Try.prog Try.f6 false true false false) := by
  refine returnsInHanded_of_change (C := Try.checked) (by kernel_rfl) started (by kernel_rfl) Try.func6
    (ChangeSpec.witness6 (enc := enc) (C := Try.checked) false ⟨#[], #[.string ⟨#[]⟩], []⟩ 8 (by kernel_rfl) (by kernel_rfl) (by kernel_rfl) (by kernel_rfl)) ?_
  intro W base args ds gs before hval0 hW hcnd _
  have hval : ∀ (j : Nat) t v, Try.f6.params[j]? = some t → args[j]? = some v → Value.okWide Try.prog W .any base t v := hval0
  have hW2 := hW
  obtain ⟨p, q, hA0, hV, hpq, hfz, hnd⟩ := hW2
  have hA : DataW.TrodAll enc Try.prog W 0 (fun _ => true) true Try.f6.params.toList args.toList ds p := hA0
  rw [Try.params6] at hA hval
  obtain ⟨v0, d0, hargs, hds, h0⟩ := trodAll_one hA
  obtain ⟨hgs, hq⟩ := trodVars_none hV
  subst hargs
  subst hds
  subst hgs
  obtain ⟨a0, rfl, rfl, _, w0⟩ := open_string Try.underlying9 (hval 0 9 v0 rfl rfl) h0
  refine (FnExactSplitLines_walk a0 W w0).mono fun e W2 ⟨he, hb⟩ => ?_
  subst he
  exact ⟨_, rfl, law_post (by kernel_rfl) (by rw [Try.params6]; decide +kernel) (by kernel_rfl) Try.underlying4 rfl ⟨rfl, rfl, rfl⟩ hW hb⟩

theorem FnExactSplitLines_holds : Rows.FnExactSplitLinesSaid :=
  OpenClaim.holds_of_wide 6 Try.f6 rfl rfl rfl rfl rfl rfl rfl ⟨rfl, rfl, rfl, rfl, rfl⟩ rfl rfl rfl rfl rfl (by kernel_rfl) Try.func6 (by kernel_rfl)
    (of_decide_eq_true (by kernel_rfl)) (by unfold Func.isWrapper; first | (rw [if_pos (by decide +kernel)]; kernel_rfl) | (rw [if_neg (by decide +kernel)]; exact ⟨rfl, rfl⟩))
    (fun os started H enc _ => FnExactSplitLines_lifted os started H enc)

end Go.Proofs.Ytndmjgaojkdmaaa
