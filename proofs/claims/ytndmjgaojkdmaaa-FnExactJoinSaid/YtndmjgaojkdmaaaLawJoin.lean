/-
  laws.FnExactJoin HOLDS: whatever the slice of strings and the separator, impl.Join answers as spec.Join does and writes nothing into its argument; the arguments read as they did. No condition.
-/
import Derived.Test.YtndmjgaojkdmaaaRows
import Derived.Test.YtndmjgaojkdmaaaFrame
import Derived.Test.YtndmjgaojkdmaaaDig
import Derived.Test.YtndmjgaojkdmaaaMark
import Derived.Test.YtndmjgaojkdmaaaJoin
import Derived.Test.YtndmjgaojkdmaaaParts
import Derived.SliceStrings
import Derived.ProofKit
namespace Go.Proofs.Ytndmjgaojkdmaaa
open Go.RowKit Go.ChangeShapes Go.WideShapes Go.ChangeAt Go.WideMaps Go.WideElems
open Go.ChangeMaps (open_string shut_string)
set_option linter.unusedVariables false
set_option linter.unusedSimpArgs false

theorem cells_string : Try.prog.cellsOf 9 = 1 := by kernel_rfl

/-- A slice of strings that comes in, nil or not: the strings it reads as, and where they lie. -/
theorem strings_in {H : Type} {enc : TypeId × Value → H} {P : Program} {W : World} {t e : TypeId} {fuel n c : Nat} {A : Option Addr} {x : DataW H × List MemPlace}
    (ht : P.underlying t = some (.slice e)) (he : P.underlying e = some .string) (hc : P.cellsOf e = 1)
    (hf : DataW.trod enc P W 0 (fun _ => true) true fuel t (Value.slice A n c).cells.toList = some x) :
    ∃ ss : List ByteArray, ss.length = n ∧ n ≤ maxLen ∧ (∀ y ∈ ss, y.size ≤ maxLen) ∧ RowAt W A (ss.map Value.string) := by
  rcases open_strings ht he hc hf with ⟨hcs, _⟩ | ⟨a, len, cap, ss, hcs, _, hl, hm, hz, _, hcell, hws⟩
  · simp [Value.cells] at hcs
    obtain ⟨rfl, rfl, rfl⟩ := hcs
    exact ⟨[], rfl, Nat.zero_le _, by simp, fun h => by simp at h⟩
  · simp [Value.cells] at hcs
    obtain ⟨rfl, rfl, rfl⟩ := hcs
    have hlen : ss.length = c := by simpa using hz
    refine ⟨ss.take n, by simp; omega, by omega, fun y hy => hws y (List.mem_of_mem_take hy), fun hp => ?_⟩
    have hp2 : 0 < n := by
      simp at hp
      omega
    have h0 := hcell 0 (by omega)
    obtain ⟨b, off, spot⟩ := a
    have hspot : spot = none := by simpa [Addr.add] using World.cell?_spot h0
    subst hspot
    refine ⟨b, off, rfl, ?_, fun j hj => ?_⟩
    · rcases Nat.lt_or_ge b W.heap.size with hlt | hge
      · exact hlt
      · have : W.heap[b]? = none := Array.getElem?_eq_none hge
        simp [Addr.add, World.cell?, this] at h0
    · have hj2 : j < n ∧ j < ss.length := by
        simp at hj
        omega
      rw [← Go.WideShapes.add_plain, hcell j hj2.2, List.getElem_map, List.getElem_take, List.getD_eq_getElem?_getD, List.getElem?_eq_getElem hj2.2]
      rfl

set_option maxHeartbeats 1000000 in
theorem FnExactJoin_walk (ss : List ByteArray) (A : Option Addr) (n c : Nat) (sep : ByteArray) (w : World) (hn : ss.length = n) (hm : n ≤ maxLen) (hss : ∀ y ∈ ss, y.size ≤ maxLen) (hr : RowAt w A (ss.map Value.string)) (hs : sep.size ≤ maxLen) :
    Calls Try.prog 7 #[.slice A n c, .string sep] w fun e w' => e = .returned (.bool true) ∧ Below w.heap.size w w' := by
  have hs2 := hs
  unfold maxLen at hs2
  by_cases h : sep.size ≤ 1048576
  · have HC := Lib.hid (szStringS_any ss A n c w hn hm hss hr)
    have HR := Lib.hid hr
    have HL := Lib.hid hn
    clear hr hss hn
    have hxx : ((joinB ss sep).toList != (joinB ss sep).toList) = false := by simp
    go_enter Try.func7, Try.ntmps7
    go_wp2_with fail
    refine HC.out.mono ?_
    rintro e w0 ⟨r, rfl, hsz, rfl⟩
    by_cases hneg : r < 0
    · clear hsz
      go_wp2
      go_ret
      exact ⟨rfl, Below.refl _ _⟩
    · obtain ⟨hn3, hss3⟩ := hsz.2.2 (by omega)
      have HS := Lib.hid hss3
      clear hsz hss3
      go_wp2_with fail
      refine (toStringS_any ss A n c w HL.out (by omega) HR.out).mono ?_
      rintro e w1 ⟨v1, rfl, h1, b1⟩
      obtain ⟨A1, c1, hv1, hl1, r1⟩ := own_form h1
      subst hv1
      have R1 := Lib.hid r1
      clear h1 hl1 r1
      go_wp2_with fail
      refine (spec_Join ss sep A1 n c1 w1 HL.out hn3 h HS.out R1.out).mono ?_
      rintro e w1b ⟨rfl, rfl⟩
      go_wp2_with fail
      refine (toStringS_any ss A n c w1 HL.out (by omega) (HR.out.below b1)).mono ?_
      rintro e w2 ⟨v2, rfl, h2, b2⟩
      obtain ⟨A2, c2, hv2, hl2, r2⟩ := own_form h2
      subst hv2
      have R2 := Lib.hid r2
      have B2 : Below w.heap.size w w2 := b1.trans (b2.mono b1.size)
      clear h2 hl2 r2 R1 b1 b2
      go_wp2_with fail
      refine (impl_Join ss sep A2 n c2 w2 HL.out hn3 h HS.out R2.out).mono ?_
      rintro e w3 ⟨rfl, b3⟩
      have R3 := Lib.hid (R2.out.below b3)
      have B3 : Below w.heap.size w w3 := B2.trans (b3.mono B2.size)
      clear R2 b3 B2
      go_wp2_with fail
      refine (toStringS_any ss A n c w3 HL.out (by omega) (HR.out.below B3)).mono ?_
      rintro e w4 ⟨v4, rfl, h4, b4⟩
      obtain ⟨A4, c4, hv4, hl4, r4⟩ := own_form h4
      subst hv4
      have R4 := Lib.hid r4
      have R5 := Lib.hid (R3.out.below b4)
      have B4 : Below w.heap.size w w4 := B3.trans (b4.mono B3.size)
      clear h4 hl4 r4 R3 b4 B3
      go_wp2_with fail
      refine (eqStringS_same ss A2 A4 n c2 c4 w4 HL.out (by unfold maxLen; omega) R5.out R4.out).mono ?_
      rintro e w5 ⟨rfl, q, rfl⟩
      go_wp2
      go_ret
      exact ⟨rfl, below_drewN B4 q⟩
  · go_enter Try.func7, Try.ntmps7
    go_wp2
    go_ret
    exact ⟨rfl, Below.refl _ _⟩

/-! ### FnExactJoin: the row -/

set_option maxRecDepth 100000 in
theorem FnExactJoin_lifted (os : Os) (started : os.Started) (H : Type) (enc : TypeId × Value → H) :
    ReturnsInHanded {} Try.checked os 7 .any (Rows.fnExactJoinSpec.pre6 enc Try.prog Try.f7 Rows.fnExactJoinRow.domain false) (Rows.fnExactJoinSpec.post enc Try.prog Try.f7 false true false false) := by
  refine returnsInHanded_of_change (C := Try.checked) (by kernel_rfl) started (by kernel_rfl) Try.func7
    (ChangeSpec.witness6 (enc := enc) (C := Try.checked) false ⟨#[], #[.slice none 0 0, .string ⟨#[]⟩], []⟩ 8 (by kernel_rfl) (by kernel_rfl) (by kernel_rfl) (by kernel_rfl)) ?_
  intro W base args ds gs before hval0 hW hcnd _
  have hval : ∀ (j : Nat) t v, Try.f7.params[j]? = some t → args[j]? = some v → Value.okWide Try.prog W .any base t v := hval0
  have hW2 := hW
  obtain ⟨p, q, hA0, hV, hpq, hfz, hnd⟩ := hW2
  have hA : DataW.TrodAll enc Try.prog W 0 (fun _ => true) true Try.f7.params.toList args.toList ds p := hA0
  rw [Try.params7] at hA hval
  obtain ⟨v0, v1, d0, d1, p0, p1, hargs, hds, hp, h0, h1⟩ := trodAll_two hA
  obtain ⟨hgs, hq⟩ := trodVars_none hV
  subst hargs
  subst hds
  subst hgs
  obtain ⟨s0, n0, c0, rfl⟩ := okWide_slice Try.underlying23 (hval 0 23 v0 rfl rfl)
  have h0b := h0
  obtain ⟨fuel, hf⟩ := h0b
  obtain ⟨ss, hn, hm, hss, hrow⟩ := strings_in Try.underlying23 Try.underlying9 cells_string hf
  obtain ⟨a1, rfl, rfl, _, w1⟩ := open_string Try.underlying9 (hval 1 9 v1 rfl rfl) h1
  refine (FnExactJoin_walk ss s0 n0 c0 a1 W hn hm hss hrow w1).mono fun e W2 ⟨he, hb⟩ => ?_
  subst he
  exact ⟨_, rfl, law_post (by kernel_rfl) (by rw [Try.params7]; decide +kernel) (by kernel_rfl) Try.underlying4 rfl ⟨rfl, rfl, rfl⟩ hW hb⟩

theorem FnExactJoin_holds : Rows.FnExactJoinSaid :=
  OpenClaim.holds_of_wide 7 Try.f7 rfl rfl rfl rfl rfl rfl rfl ⟨rfl, rfl, rfl, rfl, rfl⟩ rfl rfl rfl rfl rfl (by kernel_rfl) Try.func7 (by kernel_rfl)
    (of_decide_eq_true (by kernel_rfl)) (by unfold Func.isWrapper; first | (rw [if_pos (by decide +kernel)]; kernel_rfl) | (rw [if_neg (by decide +kernel)]; exact ⟨rfl, rfl⟩))
    (fun os started H enc _ => FnExactJoin_lifted os started H enc)

end Go.Proofs.Ytndmjgaojkdmaaa
