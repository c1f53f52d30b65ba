/-
  laws.FnWords HOLDS, AND ITS TIED CARD: integers are recovered from their text, and strings from their parts, whatever the code that they are drawn from. The listed tables and error values of the library's are tied to the program's text.
-/
import Derived.Test.YtndmjgaojkdmaaaDoorCards
import Derived.Test.YtndmjgaojkdmaaaDoorTie
import Derived.Test.YtndmjgaojkdmaaaDoorFrame
import Derived.Test.YtndmjgaojkdmaaaDoorDig
import Derived.Test.YtndmjgaojkdmaaaDoorNum
import Derived.Test.YtndmjgaojkdmaaaDoorConv
import Derived.Test.YtndmjgaojkdmaaaDoorFmtI
import Derived.Test.YtndmjgaojkdmaaaDoorParseW
import Derived.Test.YtndmjgaojkdmaaaDoorLaid
import Derived.Test.YtndmjgaojkdmaaaDoorDraw
import Derived.Test.YtndmjgaojkdmaaaDoorInB
import Derived.Test.YtndmjgaojkdmaaaDoorWords
import Derived.Test.YtndmjgaojkdmaaaDoorParts
import Derived.ProofKit
import Derived.Deep.DeepHandedRow
import Derived.Deep.DeepWitnessRowRef
import Derived.LaidMore
import Derived.LaidHandle
import Derived.MakeChecks
import Derived.Stop.LaidErr
import Derived.Lib.LaidTab
namespace Go.Proofs.YtndmjgaojkdmaaaDoor
open Go.RowKit Go.ChangeShapes Go.WideShapes Go.ChangeAt Go.WideMaps Go.WideElems
open Go.ChangeMaps (open_string shut_string)
set_option linter.unusedVariables false
set_option linter.unusedSimpArgs false

set_option maxHeartbeats 1000000 in
theorem FnWords_walk (A : Option Addr) (n c : Nat) (w : World) (hm : n ≤ maxLen) (hby : Bytes w w.heap.size A n) (ht : Pow10 w) (he : Errs w) :
    Calls Tryd.prog 3 #[.slice A n c] w fun e w' => e = .returned (.bool true) ∧ Below w.heap.size w w' := by
  have hm2 := hm
  unfold maxLen at hm2
  have HT := Lib.hid ht
  have HE := Lib.hid he
  have HB := Lib.hid hby
  clear ht he hby
  by_cases h : n ≤ 1048576
  · have HN := Lib.hid (MakeNum_any 1 A n c w h (by omega) HB.out)
    go_enter Tryd.func3, Tryd.ntmps3
    go_wp2_with fail
    refine HN.out.mono ?_
    rintro e w1 ⟨x, rfl, hx0, hx1, b1⟩
    clear HN
    go_wp2_with fail
    refine (impl_FormatInt (x - 30000) w1 (by omega) (by omega) (var_kept b1 HT.out)).mono ?_
    rintro e w2 ⟨rfl, b2⟩
    have B2 : Below w.heap.size w w2 := b1.trans (b2.mono b1.size)
    have hsz : (numB (x - 30000)).size ≤ 1048576 := by
      have h1 := Lib.itoa_length_le (x - 30000) (by omega) (by omega)
      show (Lib.itoa (x - 30000)).toArray.size ≤ 1048576
      simp; omega
    have HP := Lib.hid (impl_ParseInt (numB (x - 30000)) w2 hsz (var_kept B2 HT.out) (HE.out.kept B2))
    rw [parse_numB (x - 30000) (by omega) (by omega)] at HP
    clear b1 b2 hsz
    go_wp2_with fail
    refine HP.out.mono ?_
    rintro e w3 ⟨rfl, b3⟩
    have B3 : Below w.heap.size w w3 := B2.trans (b3.mono B2.size)
    have HTX := Lib.hid (MakeText_any A n c w3 h ((HB.out.below B3).fresh B3))
    clear b3 B2 HP
    go_wp2_with fail
    refine HTX.out.mono ?_
    rintro e w4 ⟨s, rfl, hs, b4⟩
    have B4 : Below w.heap.size w w4 := B3.trans (b4.mono B3.size)
    clear b4 B3 HTX
    have hnn : ((x - 30000 : Int) == x - 30000) = true := by simp
    have hss : (s.toList == s.toList) = true := by simp
    go_wp2_with fail
    refine (impl_SplitAny s ⟨#[32]⟩ w4 (by omega) (by decide)).mono ?_
    rintro e w5 ⟨v, rfl, h5, b5⟩
    obtain ⟨A1, c1, hv1, hl1, r1⟩ := own_form h5
    subst hv1
    have B5 : Below w.heap.size w w5 := B4.trans (b5.mono B4.size)
    have hlen := split_len s ⟨#[32]⟩
    obtain ⟨m, hmm⟩ : ∃ m, m = (split s ⟨#[32]⟩).length := ⟨_, rfl⟩
    rw [← hmm] at hlen
    have HMM := Lib.hid hmm
    rw [← HMM.out]
    have R1 := Lib.hid r1
    clear h5 b5 B4 hl1 r1 hmm
    go_wp2_with fail
    refine (impl_Join (split s ⟨#[32]⟩) ⟨#[32]⟩ A1 m c1 w5 HMM.out.symm (by omega) (by decide) (fun y hy => by have := split_sizes s ⟨#[32]⟩ y hy; omega) R1.out).mono ?_
    rw [join_split]
    rintro e w6 ⟨rfl, b6⟩
    have B6 : Below w.heap.size w w6 := B5.trans (b6.mono B5.size)
    clear b6 B5 R1
    go_wp2_with fail
    refine (impl_IsName ⟨#[120, 49]⟩ w6 (by decide)).mono ?_
    rw [name_x1]
    rintro e w7 ⟨rfl, b7⟩
    have B7 : Below w.heap.size w w7 := B6.trans (b7.mono B6.size)
    clear b7 B6
    go_wp2_with fail
    refine (impl_SplitLines ⟨#[97, 10, 98, 10]⟩ w7 (by decide)).mono ?_
    rintro e w8 ⟨v8, rfl, h8, b8⟩
    rw [lines_ab] at h8
    obtain ⟨A8, c8, hv8, hl8, r8⟩ := own_form h8
    subst hv8
    have B8 : Below w.heap.size w w8 := B7.trans (b8.mono B7.size)
    clear b8 B7 h8 hl8 r8
    go_wp2_with fail
    refine (impl_IsDigits ⟨#[48]⟩ w8 (by decide)).mono ?_
    rw [digits_0]
    rintro e w9 ⟨rfl, b9⟩
    have B9 : Below w.heap.size w w9 := B8.trans (b9.mono B8.size)
    clear b9 B8
    go_wp2
    go_ret
    exact ⟨rfl, B9⟩
  · go_enter Tryd.func3, Tryd.ntmps3
    go_wp2
    go_ret
    exact ⟨rfl, Below.refl _ _⟩

/-! ### FnWords: the row and its card -/

theorem FnWords_reads (os : Os) {H : Type} (enc : TypeId × Value → H) : ∃ places, DataW.whole enc Tryd.prog ((World.doorLaid Tryd.prog 400 os).forCall (fun _ _ => 0) ⟨#[], #[.slice none 0 0], []⟩).memory Tryd.f3.params.toList Rows.fnWordsSpec.vars false (#[.slice none 0 0] : Array Value).toList 8 = some ([.nil], [], places) :=
  ⟨[], by kernel_rfl⟩
theorem FnWords_met (os : Os) (args : Array Value) : laidMetH Tryd.prog Rows.fnWordsRow.laid ((World.doorLaid Tryd.prog 400 os).forCall (fun _ _ => 0) ⟨#[], args, []⟩).memory :=
  laidMetH_of_parts3 (fuel := 8) (laidMet_of_run' 8 (by kernel_rfl) (by kernel_rfl)) (by kernel_rfl) (by kernel_rfl)

set_option maxRecDepth 100000 in
theorem FnWords_lifted (os : Os) (started : os.Started) (H : Type) (enc : TypeId × Value → H) (F : Stop.Interp) :
    ReturnsInHanded {} Tryd.checked os 3 .any ((OpenSpec.ofChange Rows.fnWordsSpec).preRow enc Tryd.prog Tryd.f3 Rows.fnWordsRow.domain false Rows.fnWordsRow.laid) (((OpenSpec.ofChange Rows.fnWordsSpec).at F).post enc Tryd.prog Tryd.f3 false true false false) := by
  obtain ⟨places, hx⟩ := FnWords_reads os enc
  refine returnsInHanded_of_row (C := Tryd.checked) (s := OpenSpec.ofChange Rows.fnWordsSpec) (by kernel_rfl) started (by kernel_rfl) Tryd.func3
    (witness_row_atRef (enc := enc) (C := Tryd.checked) false (World.doorLaid Tryd.prog 400 os) #[.slice none 0 0] rfl (by kernel_rfl) (by kernel_rfl) (by kernel_rfl)
      (OpenSpec.preRow_of_cond 8 hx (by kernel_rfl) (fun k hk => by cases hk) (by kernel_rfl) (FnWords_met os _))) ?_
  intro W base args ds gs before hval0 hW _ _ _ hL0 _ _
  have hL : laidMet Tryd.prog Rows.fnWordsRow.laid W := by
    rw [← MakeChecks.laidMetH_plain _ _ _ (by kernel_rfl)]
    exact hL0
  have hval : ∀ (j : Nat) t v, Tryd.f3.params[j]? = some t → args[j]? = some v → Value.okWide Tryd.prog W .any base t v := hval0
  have hW2 := hW
  obtain ⟨p, q, hA0, hV, hpq, hfz, hnd⟩ := hW2
  have hA : DataW.TrodAll enc Tryd.prog W 0 (fun _ => true) true Tryd.f3.params.toList args.toList ds p := hA0
  rw [Tryd.params3] at hA hval
  obtain ⟨v0, d0, hargs, hds, h0⟩ := trodAll_one hA
  obtain ⟨hgs, hq⟩ := trodVars_none hV
  subst hargs
  subst hds
  subst hgs
  obtain ⟨A0, n0, c0, rfl⟩ := okWide_slice Tryd.underlying22 (hval 0 22 v0 rfl rfl)
  have h0b := h0
  obtain ⟨fuel, hf⟩ := h0b
  obtain ⟨hm, hby⟩ := bytes_in Tryd.underlying22 Tryd.underlying5 cells_u8 hf
  refine (FnWords_walk A0 n0 c0 W hm hby (pow10_of rfl hL.tail.tail) (errs_of hL.tail.tail.tail)).mono fun e W2 ⟨he, hb⟩ => ?_
  subst he
  exact ⟨_, rfl, law_post (by kernel_rfl) (by rw [Tryd.params3]; decide +kernel) (by kernel_rfl) Tryd.underlying4 rfl ⟨rfl, rfl, rfl⟩ hW hb⟩

theorem FnWords_said : Rows.FnWordsSaid :=
  OpenClaim.holds_of_cond 3 Tryd.f3 rfl rfl rfl rfl rfl rfl rfl ⟨rfl, rfl, rfl, rfl, rfl⟩ rfl rfl rfl rfl rfl (by kernel_rfl) Tryd.func3 (by kernel_rfl)
    (of_decide_eq_true (by kernel_rfl)) (by unfold Func.isWrapper; first | (rw [if_pos (by decide +kernel)]; kernel_rfl) | (rw [if_neg (by decide +kernel)]; exact ⟨rfl, rfl⟩))
    (fun os started H enc _ F => by rw [OpenClaim.pre_eq_preRow]; exact FnWords_lifted os started H enc F)

/-- No parameter wants a stand-in. -/
theorem FnWords_plain (f : FuncId) (fn : Func) (hf : Tryd.pinned.checked.prog.funcNamed "loop.example/g00827/laws.FnWords" = some f) (hfn : Tryd.pinned.checked.prog.funcs[f]? = some fn) :
    true = Tryd.pinned.checked.prog.looks [] ∧ ∀ (j : Nat) t, fn.params[j]? = some t → Tryd.pinned.checked.prog.wantsStandIn t = false := by
  obtain rfl : f = 3 := Option.some.inj ((show Tryd.prog.funcNamed "loop.example/g00827/laws.FnWords" = some 3 by kernel_rfl).symm.trans hf) |>.symm
  obtain rfl : fn = Tryd.f3 := (Option.some.inj (Tryd.func3.symm.trans hfn)).symm
  refine ⟨by kernel_rfl, fun j t ht => ?_⟩
  rw [Tryd.params3] at ht
  have hm : t ∈ [22] := by simpa using Array.mem_of_getElem? ht
  have hall : ([22].all fun u => !Tryd.prog.wantsStandIn u) = true := by kernel_rfl
  exact (show Tryd.prog.wantsStandIn t = false by simpa using List.all_eq_true.1 hall t hm)

theorem FnWords_card : Rows.FnWordsCardSaid :=
  Claim7.holds_tied_plain_at .later [] _ _ _ _ FnWords_said (fun _ h => by cases h) (by kernel_rfl) (fun _ h => by cases h) fnWords_row_tie rfl ⟨rfl, rfl⟩ (by kernel_rfl) rfl FnWords_plain (by kernel_rfl)

end Go.Proofs.YtndmjgaojkdmaaaDoor
