/-
  laws.FnExactImpliesLabel HOLDS: whatever the arguments, impl.ImpliesLabel answers as spec.ImpliesLabel does, and the arguments read as they did. No condition.
-/
import Derived.Test.YtaokabkffnjbjaaRows
import Derived.Test.YtaokabkffnjbjaaFrame
import Derived.Test.YtaokabkffnjbjaaBdLbP
import Derived.Test.YtaokabkffnjbjaaBdLwJ
import Derived.Deep.RegionHeld3
import Derived.Deep.CutRange
import Derived.ProofKit
import Derived.Lib.SmallJoins
namespace Go.Proofs.Ytaokabkffnjbjaa
open Go.RowKit Go.ChangeShapes Go.WideShapes Go.ChangeAt Go.WideMaps Go.WideElems
set_option linter.unusedVariables false
set_option linter.unusedSimpArgs false

theorem own_to {w : World} {B e n s lo hi : Nat} {v : Value} {xs : List Value} (h : w.ownsRow B e s v n xs) (hl : ∀ q, v.ownBlock = some q → lo < q ∧ q < hi) : w.ownsRow (lo + 1) e s v n xs := by
  refine ⟨h.1, ?_⟩
  rcases h.2 with h2 | ⟨g, cap, cur, h1, h2, h3⟩
  · exact .inl h2
  · subst h1
    have := (hl g rfl).1
    exact .inr ⟨g, cap, cur, rfl, by omega, h3⟩
theorem own_off {v v' : Value} {a b c d : Nat} (h : ∀ q, v.ownBlock = some q → a < q ∧ q < b) (h' : ∀ q, v'.ownBlock = some q → c < q ∧ q < d) (hd : b ≤ c + 1 ∨ d ≤ a + 1 := by omega) : v.ownBlock = none ∨ v.ownBlock ≠ v'.ownBlock := by
  cases hb : v.ownBlock with
  | none => exact .inl rfl
  | some q =>
    refine .inr fun e => ?_
    have h1 := h q hb
    have h2 := h' q e.symm
    omega

theorem toIntS_sl (zs : List Int) (A : Option Addr) (n c : Nat) (w : World) (hn : zs.length = n) (hm : n ≤ 1099511627776) (hr : RowAt w A (zs.map intV)) :
    Calls Try.prog 11 #[.slice A n c] w fun e w' => ∃ A' c', e = .returned (.slice A' n c') ∧ w'.ownsRow w.heap.size 3 1 (.slice A' n c') n (zs.map intV) ∧ Below w.heap.size w w' :=
  (toIntS_any zs A n c w hn hm hr).mono fun e w' ⟨v, e1, o, b⟩ => by
    obtain ⟨A', c', rfl, _, _⟩ := own_form o
    exact ⟨A', c', e1, o, b⟩
theorem eqIntS_sl (zs : List Int) (A B : Option Addr) (n ca cb : Nat) (w : World) (hn : zs.length = n) (hm : n ≤ maxLen) (ha : RowAt w A (zs.map intV)) (hb : RowAt w B (zs.map intV)) :
    Calls Try.prog 13 #[.slice A n ca, .slice B n cb] w fun e w' => e = .returned (.bool true) ∧ Below w.heap.size w w' :=
  (eqIntS_same zs A B n ca cb w hn hm ha hb).mono fun e w' ⟨h1, r, h2⟩ => ⟨h1, by rw [h2]; exact below_drewN (Below.refl _ _) r⟩

theorem same_below {f : FuncId} {args : Array Value} {w : World} {v : Value} (h : Calls Try.prog f args w fun e w' => e = .returned v ∧ w = w') : Calls Try.prog f args w fun e w' => e = .returned v ∧ Below w.heap.size w w' :=
  h.mono fun e w' ⟨h1, h2⟩ => ⟨h1, by subst h2; exact Below.refl _ _⟩
theorem ints_c7 {f : FuncId} {args : Array Value} {w : World} {r zs : List Int} {q : Nat} (h1 : zs = r) (h2 : q = zs.length) (h : Calls Try.prog f args w fun e w' => ∃ B m cb, e = .returned (.slice B m cb) ∧ m = r.length ∧ w'.ownsRow w.heap.size 3 1 (.slice B m cb) m (r.map intV) ∧ Below w.heap.size w w') :
    Calls Try.prog f args w fun e w' => ∃ B cb, e = .returned (.slice B q cb) ∧ w'.ownsRow w.heap.size 3 1 (.slice B q cb) q (zs.map intV) ∧ Below w.heap.size w w' :=
  h.mono fun e w' ⟨A, k, c, e1, e2, e3, e4⟩ => by
    subst h1 h2 e2
    exact ⟨A, c, e1, e3, e4⟩
theorem intsb_c7 {f : FuncId} {args : Array Value} {w : World} {r : List Int × Bool} {zs : List Int} {ok : Bool} {q : Nat} (h1 : zs = r.1) (h0 : ok = r.2) (h2 : q = zs.length) (h : Calls Try.prog f args w fun e w' => ∃ B m cb, e = .returned (.tuple #[.slice B m cb, .bool r.2]) ∧ m = r.1.length ∧ w'.ownsRow w.heap.size 3 1 (.slice B m cb) m (r.1.map intV) ∧ Below w.heap.size w w') :
    Calls Try.prog f args w fun e w' => ∃ B cb, e = .returned (.tuple #[.slice B q cb, .bool ok]) ∧ w'.ownsRow w.heap.size 3 1 (.slice B q cb) q (zs.map intV) ∧ Below w.heap.size w w' :=
  h.mono fun e w' ⟨A, k, c, e1, e2, e3, e4⟩ => by
    subst h1 h2 h0 e2
    exact ⟨A, c, e1, e3, e4⟩

set_option maxRecDepth 100000 in
set_option maxHeartbeats 16000000 in
theorem FnExactImpliesLabel_walk (a : List Int) (A : Option Addr) (k c : Nat) (b : List Int) (B : Option Addr) (m d : Nat) (w : World) (hla : a.length = k) (hka : k ≤ maxLen) (hra : RowAt w A (a.map intV)) (hlb : b.length = m) (hmb : m ≤ maxLen) (hrb : RowAt w B (b.map intV)) :
    Calls Try.prog 7 #[.slice A k c, .slice B m d] w fun e w' => e = .returned (.bool true) ∧ Below w.heap.size w w' := by
  have HRA := Lib.hid hra
  have HLA := Lib.hid hla
  have HRB := Lib.hid hrb
  have HLB := Lib.hid hlb
  have hka2 := hka
  unfold maxLen at hka2
  have hmb2 := hmb
  unfold maxLen at hmb2
  clear hra hla hka hrb hlb hmb
  by_cases hlong : k ≤ 1048576
  · have hl1 : ¬ ((1048576 : Int) < k) := by omega
    by_cases hlong2 : m ≤ 1048576
    · have hl2 : ¬ ((1048576 : Int) < m) := by omega
      have HTA := Lib.hid (fun W h' => toIntS_sl a A k c W HLA.out (by omega) h')
      have HEA := Lib.hid (fun A1 A2 c1 c2 W h1 h2 => eqIntS_sl a A1 A2 k c1 c2 W HLA.out (by unfold maxLen; omega) h1 h2)
      have HTB := Lib.hid (fun W h' => toIntS_sl b B m d W HLB.out (by omega) h')
      have HEB := Lib.hid (fun A1 A2 c1 c2 W h1 h2 => eqIntS_sl b A1 A2 m c1 c2 W HLB.out (by unfold maxLen; omega) h1 h2)
      have HSP := Lib.hid (fun A' c' B' d' W h1 h2 => same_below (spec_ImpliesLabel a b A' k c' B' m d' W HLA.out hlong HLB.out hlong2 h1 h2))
      have HIM := Lib.hid (fun A' c' B' d' W h1 h2 => impl_ImpliesLabel a b A' k c' B' m d' W HLA.out hlong HLB.out hlong2 h1 h2)
      obtain ⟨r, hr⟩ : ∃ r, r = impR a b := ⟨_, rfl⟩
      rw [← hr] at HSP HIM
      have hoo : ((r : Bool) != r) = false := by simp
      clear hr
      go_enter Try.func7, Try.ntmps7
      have B_w : Below w.heap.size w w := Below.refl _ _
      go_wp2_with fail
      refine (HTA.out _ (HRA.out.below B_w)).mono ?_
      rintro e ua ⟨Tua, Tuac, rfl, hh, bh⟩
      have HIua := Lib.hid (own_row hh)
      clear hh
      have B_ua : Below w.heap.size w ua := B_w.trans (bh.mono B_w.size)
      clear   bh
      go_wp2_with fail
      refine (HTB.out _ (HRB.out.below B_ua)).mono ?_
      rintro e ub ⟨Tub, Tubc, rfl, hh, bh⟩
      have HJub := Lib.hid (own_row hh)
      have HIub := Lib.hid (HIua.out.below bh)
      clear hh HIua
      have B_ub : Below w.heap.size w ub := B_ua.trans (bh.mono B_ua.size)
      clear   bh
      go_wp2_with fail
      refine (HSP.out Tua Tuac Tub Tubc _ HIub.out HJub.out).mono ?_
      rintro e uc ⟨rfl, bh⟩
      clear HIub HJub
      have B_uc : Below w.heap.size w uc := B_ub.trans (bh.mono B_ub.size)
      clear   bh
      go_wp2_with fail
      refine (HTA.out _ (HRA.out.below B_uc)).mono ?_
      rintro e ud ⟨T4, T4c, rfl, hh, bh⟩
      have g4 := Lib.hid hh
      clear hh
      have B_ud : Below w.heap.size w ud := B_uc.trans (bh.mono B_uc.size)
      clear   bh
      have oX_ud := g4
      clear g4
      go_wp2_with fail
      refine (HTB.out _ (HRB.out.below B_ud)).mono ?_
      rintro e ue ⟨T5, T5c, rfl, hh, bh⟩
      have g5 := Lib.hid hh
      clear hh
      have B_ue : Below w.heap.size w ue := B_ud.trans (bh.mono B_ud.size)
      have oX_ue := Lib.hid (own_below oX_ud.out bh)
      clear  oX_ud bh
      have oV_ue := g5
      clear g5
      go_wp2_with fail
      refine (HIM.out T4 T4c T5 T5c _ (own_row oX_ue.out) (own_row oV_ue.out)).mono ?_
      rintro e uf ⟨rfl, bh⟩
      have B_uf : Below w.heap.size w uf := B_ue.trans (bh.mono B_ue.size)
      have oX_uf := Lib.hid (own_below oX_ue.out bh)
      have oV_uf := Lib.hid (own_below oV_ue.out bh)
      clear  oX_ue oV_ue bh
      go_wp2_with fail
      refine (HTA.out _ (HRA.out.below B_uf)).mono ?_
      rintro e uh ⟨T7, T7c, rfl, hh, bh⟩
      have HI7 := Lib.hid (own_row hh)
      clear hh
      have B_uh : Below w.heap.size w uh := B_uf.trans (bh.mono B_uf.size)
      have oX_uh := Lib.hid (own_below oX_uf.out bh)
      have oV_uh := Lib.hid (own_below oV_uf.out bh)
      clear  oX_uf oV_uf bh
      go_wp2_with fail
      refine (HEA.out T4 T7 T4c T7c _ (own_row oX_uh.out) HI7.out).mono ?_
      rintro e ui ⟨rfl, bh⟩
      clear HI7
      have B_ui : Below w.heap.size w ui := B_uh.trans (bh.mono B_uh.size)
      have oX_ui := Lib.hid (own_below oX_uh.out bh)
      have oV_ui := Lib.hid (own_below oV_uh.out bh)
      clear  oX_uh oV_uh bh
      go_wp2_with fail
      refine (HTB.out _ (HRB.out.below B_ui)).mono ?_
      rintro e uj ⟨T8, T8c, rfl, hh, bh⟩
      have HI8 := Lib.hid (own_row hh)
      clear hh
      have B_uj : Below w.heap.size w uj := B_ui.trans (bh.mono B_ui.size)
      have oX_uj := Lib.hid (own_below oX_ui.out bh)
      have oV_uj := Lib.hid (own_below oV_ui.out bh)
      clear  oX_ui oV_ui bh
      go_wp2_with fail
      refine (HEB.out T5 T8 T5c T8c _ (own_row oV_uj.out) HI8.out).mono ?_
      rintro e uk ⟨rfl, bh⟩
      clear HI8
      have B_uk : Below w.heap.size w uk := B_uj.trans (bh.mono B_uj.size)
      have oX_uk := Lib.hid (own_below oX_uj.out bh)
      have oV_uk := Lib.hid (own_below oV_uj.out bh)
      clear  oX_uj oV_uj bh
      go_wp2_with fail
      go_ret
      exact ⟨rfl, B_uk⟩
    · have hl2 : ((1048576 : Int) < m) := by omega
      go_enter Try.func7, Try.ntmps7
      go_wp2_with fail
      go_ret
      exact ⟨rfl, Below.refl _ _⟩
  · have hl1 : ((1048576 : Int) < k) := by omega
    go_enter Try.func7, Try.ntmps7
    go_wp2_with fail
    go_ret
    exact ⟨rfl, Below.refl _ _⟩

/-! ### FnExactImpliesLabel: the row -/

set_option maxRecDepth 100000 in
theorem FnExactImpliesLabel_lifted (os : Os) (started : os.Started) (H : Type) (enc : TypeId × Value → H) :
    ReturnsInHanded {} Try.checked os 7 .any (Rows.fnExactImpliesLabelSpec.pre6 enc Try.prog Try.f7 Rows.fnExactImpliesLabelRow.domain false) (Rows.fnExactImpliesLabelSpec.post enc Try.prog Try.f7 false true false false) := by
  refine returnsInHanded_of_change (C := Try.checked) (by kernel_rfl) started (by kernel_rfl) Try.func7
    (ChangeSpec.witness6 (enc := enc) (C := Try.checked) false ⟨#[], #[.slice none 0 0, .slice none 0 0], []⟩ 8 (by kernel_rfl) (by kernel_rfl) (by kernel_rfl) (by kernel_rfl)) ?_
  intro W base args ds gs before hval0 hW hcnd _
  have hval : ∀ (j : Nat) t v, Try.f7.params[j]? = some t → args[j]? = some v → Value.okWide Try.prog W .any base t v := hval0
  have hW2 := hW
  obtain ⟨p, q, hA0, hV, hpq, hfz, hnd⟩ := hW2
  have hA : DataW.TrodAll enc Try.prog W 0 (fun _ => true) true Try.f7.params.toList args.toList ds p := hA0
  rw [Try.params7] at hA hval
  obtain ⟨v0, v1, d0, d1, p0, p1, hargs, hds, hp, h0, h1⟩ := trodAll_two hA
  obtain ⟨hgs, hq⟩ := trodVars_none hV
  subst hargs
  subst hds
  subst hgs
  obtain ⟨s0, l0, c0, rfl⟩ := okWide_slice Try.underlying22 (hval 0 22 v0 rfl rfl)
  obtain ⟨fuel0, hf0⟩ := h0
  obtain ⟨zs0, hzl0, hzm0, hzw0, hzr0⟩ := ints_in Try.underlying22 Try.underlying3 cells_int1 hf0
  obtain ⟨s1, l1, c1, rfl⟩ := okWide_slice Try.underlying22 (hval 1 22 v1 rfl rfl)
  obtain ⟨fuel1, hf1⟩ := h1
  obtain ⟨zs1, hzl1, hzm1, hzw1, hzr1⟩ := ints_in Try.underlying22 Try.underlying3 cells_int1 hf1
  refine (FnExactImpliesLabel_walk zs0 s0 l0 c0 zs1 s1 l1 c1 W hzl0 hzm0 hzr0 hzl1 hzm1 hzr1).mono fun e W2 ⟨he, hb⟩ => ?_
  subst he
  exact ⟨_, rfl, law_post (by kernel_rfl) (by rw [Try.params7]; decide +kernel) (by kernel_rfl) Try.underlying4 rfl ⟨rfl, rfl, rfl⟩ hW hb⟩

theorem FnExactImpliesLabel_holds : Rows.FnExactImpliesLabelSaid :=
  OpenClaim.holds_of_wide 7 Try.f7 rfl rfl rfl rfl rfl rfl rfl ⟨rfl, rfl, rfl, rfl, rfl⟩ rfl rfl rfl rfl rfl (by kernel_rfl) Try.func7 (by kernel_rfl)
    (of_decide_eq_true (by kernel_rfl)) (by unfold Func.isWrapper; first | (rw [if_pos (by decide +kernel)]; kernel_rfl) | (rw [if_neg (by decide +kernel)]; exact ⟨rfl, rfl⟩))
    (fun os started H enc _ => FnExactImpliesLabel_lifted os started H enc)

end Go.Proofs.Ytaokabkffnjbjaa

