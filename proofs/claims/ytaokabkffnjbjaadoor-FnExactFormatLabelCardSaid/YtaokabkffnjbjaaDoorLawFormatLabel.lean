/-
  laws.FnExactFormatLabel HOLDS, AND ITS TIED CARD: whatever the label, impl.FormatLabel answers as spec.FormatLabel does, and the label reads as it did.
-/
import Derived.Test.YtaokabkffnjbjaaDoorCards
import Derived.Test.YtaokabkffnjbjaaDoorTie
import Derived.Test.YtaokabkffnjbjaaDoorFrame
import Derived.Test.YtaokabkffnjbjaaDoorBdNum
import Derived.Test.YtaokabkffnjbjaaDoorBdLwF
import Derived.ProofKit
import Derived.Lib.SmallJoins
import Derived.Deep.RegionHeld3
import Derived.Deep.CutRange
import Derived.Deep.DeepHandedRow
import Derived.Deep.DeepWitnessRowRef
import Derived.LaidMore
import Derived.LaidHandle
import Derived.MakeChecks
import Derived.Stop.LaidErr
import Derived.Lib.LaidTab
namespace Go.Proofs.YtaokabkffnjbjaaDoor
open Go.RowKit Go.ChangeShapes Go.WideShapes Go.ChangeAt Go.WideMaps Go.WideElems
open Go.ChangeMaps (open_string shut_string)
set_option linter.unusedVariables false
set_option linter.unusedSimpArgs false

theorem own_to {w : World} {B e n s lo hi : Nat} {v : Value} {xs : List Value} (h : w.ownsRow B e s v n xs) (hl : ∀ q, v.ownBlock = some q → lo < q ∧ q < hi) : w.ownsRow (lo + 1) e s v n xs := by
  refine ⟨h.1, ?_⟩
  rcases h.2 with h2 | ⟨g, cap, cur, h1, h2, h3⟩
  · exact .inl h2
  · subst h1
    have := (hl g rfl).1
    exact .inr ⟨g, cap, cur, rfl, by omega, h3⟩
theorem own_off {v v' : Value} {a b c d : Nat} (h : ∀ q, v.ownBlock = some q → a < q ∧ q < b) (h' : ∀ q, v'.ownBlock = some q → c < q ∧ q < d) (hd : b ≤ c + 1 ∨ d ≤ a + 1 := by omega) : v.ownBlock = none ∨ v.ownBlock ≠ v'.ownBlock := by
  cases hb : v.ownBlock with
  | none => exact .inl rfl
  | some q =>
    refine .inr fun e => ?_
    have h1 := h q hb
    have h2 := h' q e.symm
    omega

theorem toIntS_sl (zs : List Int) (A : Option Addr) (n c : Nat) (w : World) (hn : zs.length = n) (hm : n ≤ 1099511627776) (hr : RowAt w A (zs.map intV)) :
    Calls Tryd.prog 17 #[.slice A n c] w fun e w' => ∃ A' c', e = .returned (.slice A' n c') ∧ w'.ownsRow w.heap.size 3 1 (.slice A' n c') n (zs.map intV) ∧ Below w.heap.size w w' :=
  (toIntS_any zs A n c w hn hm hr).mono fun e w' ⟨v, e1, o, b⟩ => by
    obtain ⟨A', c', rfl, _, _⟩ := own_form o
    exact ⟨A', c', e1, o, b⟩
theorem eqIntS_sl (zs : List Int) (A B : Option Addr) (n ca cb : Nat) (w : World) (hn : zs.length = n) (hm : n ≤ maxLen) (ha : RowAt w A (zs.map intV)) (hb : RowAt w B (zs.map intV)) :
    Calls Tryd.prog 18 #[.slice A n ca, .slice B n cb] w fun e w' => e = .returned (.bool true) ∧ Below w.heap.size w w' :=
  (eqIntS_same zs A B n ca cb w hn hm ha hb).mono fun e w' ⟨h1, r, h2⟩ => ⟨h1, by rw [h2]; exact below_drewN (Below.refl _ _) r⟩

theorem own_off7 {v v' : Value} {a b c d : Nat} (h : ∀ q, v.ownBlock = some q → a ≤ q ∧ q < b) (h' : ∀ q, v'.ownBlock = some q → c ≤ q ∧ q < d) (hd : b ≤ c ∨ d ≤ a := by omega) : v.ownBlock = none ∨ v.ownBlock ≠ v'.ownBlock := by
  cases hv : v.ownBlock with
  | none => exact Or.inl rfl
  | some q =>
    refine Or.inr fun he => ?_
    have h1 := h q hv
    have h2 := h' q he.symm
    omega
theorem same_below {f : FuncId} {args : Array Value} {w : World} {v : Value} (h : Calls Tryd.prog f args w fun e w' => e = .returned v ∧ w = w') : Calls Tryd.prog f args w fun e w' => e = .returned v ∧ Below w.heap.size w w' :=
  h.mono fun e w' ⟨h1, h2⟩ => ⟨h1, by subst h2; exact Below.refl _ _⟩
theorem ints_c7 {f : FuncId} {args : Array Value} {w : World} {r zs : List Int} {q : Nat} (h1 : zs = r) (h2 : q = zs.length) (h : Calls Tryd.prog f args w fun e w' => ∃ B m cb, e = .returned (.slice B m cb) ∧ m = r.length ∧ w'.ownsRow w.heap.size 3 1 (.slice B m cb) m (r.map intV) ∧ Below w.heap.size w w') :
    Calls Tryd.prog f args w fun e w' => ∃ B cb, e = .returned (.slice B q cb) ∧ w'.ownsRow w.heap.size 3 1 (.slice B q cb) q (zs.map intV) ∧ Below w.heap.size w w' :=
  h.mono fun e w' ⟨A, k, c, e1, e2, e3, e4⟩ => by
    subst h1 h2 e2
    exact ⟨A, c, e1, e3, e4⟩
theorem intsb_c7 {f : FuncId} {args : Array Value} {w : World} {r : List Int × Bool} {zs : List Int} {ok : Bool} {q : Nat} (h1 : zs = r.1) (h0 : ok = r.2) (h2 : q = zs.length) (h : Calls Tryd.prog f args w fun e w' => ∃ B m cb, e = .returned (.tuple #[.slice B m cb, .bool r.2]) ∧ m = r.1.length ∧ w'.ownsRow w.heap.size 3 1 (.slice B m cb) m (r.1.map intV) ∧ Below w.heap.size w w') :
    Calls Tryd.prog f args w fun e w' => ∃ B cb, e = .returned (.tuple #[.slice B q cb, .bool ok]) ∧ w'.ownsRow w.heap.size 3 1 (.slice B q cb) q (zs.map intV) ∧ Below w.heap.size w w' :=
  h.mono fun e w' ⟨A, k, c, e1, e2, e3, e4⟩ => by
    subst h1 h2 h0 e2
    exact ⟨A, c, e1, e3, e4⟩

set_option maxRecDepth 100000 in
set_option maxHeartbeats 16000000 in
theorem FnExactFormatLabel_walk (a : List Int) (A : Option Addr) (k c : Nat) (w : World) (hla : a.length = k) (hka : k ≤ maxLen) (hra : RowAt w A (a.map intV)) (ht : Pow10 w) :
    Calls Tryd.prog 4 #[.slice A k c] w fun e w' => e = .returned (.bool true) ∧ Below w.heap.size w w' := by
  have HRA := Lib.hid hra
  have HLA := Lib.hid hla
  have HTT := Lib.hid ht
  have hka2 := hka
  unfold maxLen at hka2
  clear hra hla hka ht
  by_cases hlong : k ≤ 1048576
  · have hl1 : ¬ ((1048576 : Int) < k) := by omega
    have HTA := Lib.hid (fun W h' => toIntS_sl a A k c W HLA.out (by omega) h')
    have HEA := Lib.hid (fun A1 A2 c1 c2 W h1 h2 => eqIntS_sl a A1 A2 k c1 c2 W HLA.out (by unfold maxLen; omega) h1 h2)
    have HSP := Lib.hid (fun A' c' W h1 => spec_FormatLabel a A' k c' W HLA.out hlong h1)
    have HIM := Lib.hid (fun A' c' W h1 (hb : Below w.heap.size w W) => impl_FormatLabel a A' k c' W HLA.out hlong h1 (var_kept hb HTT.out))
    obtain ⟨r, hr⟩ : ∃ r, r = fmtL a := ⟨_, rfl⟩
    rw [← hr] at HSP HIM
    have hoo : (r.toList != r.toList) = false := by simp
    clear hr
    go_enter Tryd.func4, Tryd.ntmps4
    have B_w : Below w.heap.size w w := Below.refl _ _
    go_wp2_with fail
    refine (HTA.out _ (HRA.out.below B_w)).mono ?_
    rintro e ua ⟨Tua, Tuac, rfl, hh, bh⟩
    have HIua := Lib.hid (own_row hh)
    clear hh
    have B_ua : Below w.heap.size w ua := B_w.trans (bh.mono B_w.size)
    clear   bh
    go_wp2_with fail
    refine (HSP.out Tua Tuac _ HIua.out).mono ?_
    rintro e uc ⟨rfl, bh⟩
    clear HIua
    have B_uc : Below w.heap.size w uc := B_ua.trans (bh.mono B_ua.size)
    clear   bh
    go_wp2_with fail
    refine (HTA.out _ (HRA.out.below B_uc)).mono ?_
    rintro e ud ⟨T4, T4c, rfl, hh, bh⟩
    have g4 := Lib.hid hh
    clear hh
    have B_ud : Below w.heap.size w ud := B_uc.trans (bh.mono B_uc.size)
    clear   bh
    have oX_ud := g4
    clear g4
    go_wp2_with fail
    refine (HIM.out T4 T4c _ (own_row oX_ud.out) B_ud).mono ?_
    rintro e uf ⟨rfl, bh⟩
    have B_uf : Below w.heap.size w uf := B_ud.trans (bh.mono B_ud.size)
    have oX_uf := Lib.hid (own_below oX_ud.out bh)
    clear  oX_ud bh
    go_wp2_with fail
    refine (HTA.out _ (HRA.out.below B_uf)).mono ?_
    rintro e uh ⟨T7, T7c, rfl, hh, bh⟩
    have HI7 := Lib.hid (own_row hh)
    clear hh
    have B_uh : Below w.heap.size w uh := B_uf.trans (bh.mono B_uf.size)
    have oX_uh := Lib.hid (own_below oX_uf.out bh)
    clear  oX_uf bh
    go_wp2_with fail
    refine (HEA.out T4 T7 T4c T7c _ (own_row oX_uh.out) HI7.out).mono ?_
    rintro e ui ⟨rfl, bh⟩
    clear HI7
    have B_ui : Below w.heap.size w ui := B_uh.trans (bh.mono B_uh.size)
    have oX_ui := Lib.hid (own_below oX_uh.out bh)
    clear  oX_uh bh
    go_wp2_with fail
    go_ret
    exact ⟨rfl, B_ui⟩
  · have hl1 : ((1048576 : Int) < k) := by omega
    go_enter Tryd.func4, Tryd.ntmps4
    go_wp2_with fail
    go_ret
    exact ⟨rfl, Below.refl _ _⟩

/-! ### FnExactFormatLabel: the row and its card -/

theorem FnExactFormatLabel_reads (os : Os) {H : Type} (enc : TypeId × Value → H) : ∃ places, DataW.whole enc Tryd.prog ((World.doorLaid Tryd.prog 400 os).forCall (fun _ _ => 0) ⟨#[], #[.slice none 0 0], []⟩).memory Tryd.f4.params.toList Rows.fnExactFormatLabelSpec.vars false (#[.slice none 0 0] : Array Value).toList 8 = some ([.nil], [], places) :=
  ⟨[], by kernel_rfl⟩
theorem FnExactFormatLabel_met (os : Os) (args : Array Value) : laidMetH Tryd.prog Rows.fnExactFormatLabelRow.laid ((World.doorLaid Tryd.prog 400 os).forCall (fun _ _ => 0) ⟨#[], args, []⟩).memory :=
  laidMetH_of_parts3 (fuel := 8) (laidMet_of_run' 8 (by kernel_rfl) (by kernel_rfl)) (by kernel_rfl) (by kernel_rfl)

set_option maxRecDepth 100000 in
theorem FnExactFormatLabel_lifted (os : Os) (started : os.Started) (H : Type) (enc : TypeId × Value → H) (F : Stop.Interp) :
    ReturnsInHanded {} Tryd.checked os 4 .any ((OpenSpec.ofChange Rows.fnExactFormatLabelSpec).preRow enc Tryd.prog Tryd.f4 Rows.fnExactFormatLabelRow.domain false Rows.fnExactFormatLabelRow.laid) (((OpenSpec.ofChange Rows.fnExactFormatLabelSpec).at F).post enc Tryd.prog Tryd.f4 false true false false) := by
  obtain ⟨places, hx⟩ := FnExactFormatLabel_reads os enc
  refine returnsInHanded_of_row (C := Tryd.checked) (s := OpenSpec.ofChange Rows.fnExactFormatLabelSpec) (by kernel_rfl) started (by kernel_rfl) Tryd.func4
    (witness_row_atRef (enc := enc) (C := Tryd.checked) false (World.doorLaid Tryd.prog 400 os) #[.slice none 0 0] rfl (by kernel_rfl) (by kernel_rfl) (by kernel_rfl)
      (OpenSpec.preRow_of_cond 8 hx (by kernel_rfl) (fun k hk => by cases hk) (by kernel_rfl) (FnExactFormatLabel_met os _))) ?_
  intro W base args ds gs before hval0 hW _ _ _ hL0 _ _
  have hL : laidMet Tryd.prog Rows.fnExactFormatLabelRow.laid W := by
    rw [← MakeChecks.laidMetH_plain _ _ _ (by kernel_rfl)]
    exact hL0
  have hval : ∀ (j : Nat) t v, Tryd.f4.params[j]? = some t → args[j]? = some v → Value.okWide Tryd.prog W .any base t v := hval0
  have hW2 := hW
  obtain ⟨p, q, hA0, hV, hpq, hfz, hnd⟩ := hW2
  have hA : DataW.TrodAll enc Tryd.prog W 0 (fun _ => true) true Tryd.f4.params.toList args.toList ds p := hA0
  rw [Tryd.params4] at hA hval
  obtain ⟨v0, d0, hargs, hds, h0⟩ := trodAll_one hA
  obtain ⟨hgs, hq⟩ := trodVars_none hV
  subst hargs
  subst hds
  subst hgs
  obtain ⟨s0, l0, c0, rfl⟩ := okWide_slice Tryd.underlying23 (hval 0 23 v0 rfl rfl)
  have h0b := h0
  obtain ⟨fuel0, hf0⟩ := h0b
  obtain ⟨zs0, hzl0, hzm0, hzw0, hzr0⟩ := ints_in Tryd.underlying23 Tryd.underlying3 cells_int1 hf0
  refine (FnExactFormatLabel_walk zs0 s0 l0 c0 W hzl0 hzm0 hzr0 (pow10_of rfl hL.tail.tail)).mono fun e W2 ⟨he, hb⟩ => ?_
  subst he
  exact ⟨_, rfl, law_post (by kernel_rfl) (by rw [Tryd.params4]; decide +kernel) (by kernel_rfl) Tryd.underlying4 rfl ⟨rfl, rfl, rfl⟩ hW hb⟩

theorem FnExactFormatLabel_said : Rows.FnExactFormatLabelSaid :=
  OpenClaim.holds_of_cond 4 Tryd.f4 rfl rfl rfl rfl rfl rfl rfl ⟨rfl, rfl, rfl, rfl, rfl⟩ rfl rfl rfl rfl rfl (by kernel_rfl) Tryd.func4 (by kernel_rfl)
    (of_decide_eq_true (by kernel_rfl)) (by unfold Func.isWrapper; first | (rw [if_pos (by decide +kernel)]; kernel_rfl) | (rw [if_neg (by decide +kernel)]; exact ⟨rfl, rfl⟩))
    (fun os started H enc _ F => by rw [OpenClaim.pre_eq_preRow]; exact FnExactFormatLabel_lifted os started H enc F)

/-- No parameter wants a stand-in. -/
theorem FnExactFormatLabel_plain (f : FuncId) (fn : Func) (hf : Tryd.pinned.checked.prog.funcNamed "loop.example/g00827/laws.FnExactFormatLabel" = some f) (hfn : Tryd.pinned.checked.prog.funcs[f]? = some fn) :
    true = Tryd.pinned.checked.prog.looks [] ∧ ∀ (j : Nat) t, fn.params[j]? = some t → Tryd.pinned.checked.prog.wantsStandIn t = false := by
  obtain rfl : f = 4 := Option.some.inj ((show Tryd.prog.funcNamed "loop.example/g00827/laws.FnExactFormatLabel" = some 4 by kernel_rfl).symm.trans hf) |>.symm
  obtain rfl : fn = Tryd.f4 := (Option.some.inj (Tryd.func4.symm.trans hfn)).symm
  refine ⟨by kernel_rfl, fun j t ht => ?_⟩
  rw [Tryd.params4] at ht
  have hm : t ∈ [23] := by simpa using Array.mem_of_getElem? ht
  have hall : ([23].all fun u => !Tryd.prog.wantsStandIn u) = true := by kernel_rfl
  exact (show Tryd.prog.wantsStandIn t = false by simpa using List.all_eq_true.1 hall t hm)

theorem FnExactFormatLabel_card : Rows.FnExactFormatLabelCardSaid :=
  Claim7.holds_tied_plain_at .later [] _ _ _ _ FnExactFormatLabel_said (fun _ h => by cases h) (by kernel_rfl) (fun _ h => by cases h) fnExactFormatLabel_row_tie rfl ⟨rfl, rfl⟩ (by kernel_rfl) rfl FnExactFormatLabel_plain (by kernel_rfl)

end Go.Proofs.YtaokabkffnjbjaaDoor

