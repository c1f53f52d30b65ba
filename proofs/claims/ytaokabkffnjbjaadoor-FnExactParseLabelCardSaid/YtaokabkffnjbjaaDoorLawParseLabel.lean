/-
  laws.FnExactParseLabel HOLDS, AND ITS TIED CARD: whatever the string, impl.ParseLabel answers as spec.ParseLabel does, and the answer's memory is its own.
-/
import Derived.Test.YtaokabkffnjbjaaDoorCards
import Derived.Test.YtaokabkffnjbjaaDoorTie
import Derived.Test.YtaokabkffnjbjaaDoorFrame
import Derived.Test.YtaokabkffnjbjaaDoorBdWords
import Derived.Test.YtaokabkffnjbjaaDoorBdLwF
import Derived.ProofKit
import Derived.Lib.SmallJoins
import Derived.Deep.RegionHeld3
import Derived.Deep.CutRange
import Derived.Deep.DeepHandedRow
import Derived.Deep.DeepWitnessRowRef
import Derived.LaidMore
import Derived.LaidHandle
import Derived.MakeChecks
import Derived.Stop.LaidErr
import Derived.Lib.LaidTab
namespace Go.Proofs.YtaokabkffnjbjaaDoor
open Go.RowKit Go.ChangeShapes Go.WideShapes Go.ChangeAt Go.WideMaps Go.WideElems
open Go.ChangeMaps (open_string shut_string)
set_option linter.unusedVariables false
set_option linter.unusedSimpArgs false

theorem own_to {w : World} {B e n s lo hi : Nat} {v : Value} {xs : List Value} (h : w.ownsRow B e s v n xs) (hl : ∀ q, v.ownBlock = some q → lo < q ∧ q < hi) : w.ownsRow (lo + 1) e s v n xs := by
  refine ⟨h.1, ?_⟩
  rcases h.2 with h2 | ⟨g, cap, cur, h1, h2, h3⟩
  · exact .inl h2
  · subst h1
    have := (hl g rfl).1
    exact .inr ⟨g, cap, cur, rfl, by omega, h3⟩
theorem own_off {v v' : Value} {a b c d : Nat} (h : ∀ q, v.ownBlock = some q → a < q ∧ q < b) (h' : ∀ q, v'.ownBlock = some q → c < q ∧ q < d) (hd : b ≤ c + 1 ∨ d ≤ a + 1 := by omega) : v.ownBlock = none ∨ v.ownBlock ≠ v'.ownBlock := by
  cases hb : v.ownBlock with
  | none => exact .inl rfl
  | some q =>
    refine .inr fun e => ?_
    have h1 := h q hb
    have h2 := h' q e.symm
    omega

theorem toIntS_sl (zs : List Int) (A : Option Addr) (n c : Nat) (w : World) (hn : zs.length = n) (hm : n ≤ 1099511627776) (hr : RowAt w A (zs.map intV)) :
    Calls Tryd.prog 17 #[.slice A n c] w fun e w' => ∃ A' c', e = .returned (.slice A' n c') ∧ w'.ownsRow w.heap.size 3 1 (.slice A' n c') n (zs.map intV) ∧ Below w.heap.size w w' :=
  (toIntS_any zs A n c w hn hm hr).mono fun e w' ⟨v, e1, o, b⟩ => by
    obtain ⟨A', c', rfl, _, _⟩ := own_form o
    exact ⟨A', c', e1, o, b⟩
theorem eqIntS_sl (zs : List Int) (A B : Option Addr) (n ca cb : Nat) (w : World) (hn : zs.length = n) (hm : n ≤ maxLen) (ha : RowAt w A (zs.map intV)) (hb : RowAt w B (zs.map intV)) :
    Calls Tryd.prog 18 #[.slice A n ca, .slice B n cb] w fun e w' => e = .returned (.bool true) ∧ Below w.heap.size w w' :=
  (eqIntS_same zs A B n ca cb w hn hm ha hb).mono fun e w' ⟨h1, r, h2⟩ => ⟨h1, by rw [h2]; exact below_drewN (Below.refl _ _) r⟩

theorem own_off7 {v v' : Value} {a b c d : Nat} (h : ∀ q, v.ownBlock = some q → a ≤ q ∧ q < b) (h' : ∀ q, v'.ownBlock = some q → c ≤ q ∧ q < d) (hd : b ≤ c ∨ d ≤ a := by omega) : v.ownBlock = none ∨ v.ownBlock ≠ v'.ownBlock := by
  cases hv : v.ownBlock with
  | none => exact Or.inl rfl
  | some q =>
    refine Or.inr fun he => ?_
    have h1 := h q hv
    have h2 := h' q he.symm
    omega
theorem same_below {f : FuncId} {args : Array Value} {w : World} {v : Value} (h : Calls Tryd.prog f args w fun e w' => e = .returned v ∧ w = w') : Calls Tryd.prog f args w fun e w' => e = .returned v ∧ Below w.heap.size w w' :=
  h.mono fun e w' ⟨h1, h2⟩ => ⟨h1, by subst h2; exact Below.refl _ _⟩
theorem ints_c7 {f : FuncId} {args : Array Value} {w : World} {r zs : List Int} {q : Nat} (h1 : zs = r) (h2 : q = zs.length) (h : Calls Tryd.prog f args w fun e w' => ∃ B m cb, e = .returned (.slice B m cb) ∧ m = r.length ∧ w'.ownsRow w.heap.size 3 1 (.slice B m cb) m (r.map intV) ∧ Below w.heap.size w w') :
    Calls Tryd.prog f args w fun e w' => ∃ B cb, e = .returned (.slice B q cb) ∧ w'.ownsRow w.heap.size 3 1 (.slice B q cb) q (zs.map intV) ∧ Below w.heap.size w w' :=
  h.mono fun e w' ⟨A, k, c, e1, e2, e3, e4⟩ => by
    subst h1 h2 e2
    exact ⟨A, c, e1, e3, e4⟩
theorem intsb_c7 {f : FuncId} {args : Array Value} {w : World} {r : List Int × Bool} {zs : List Int} {ok : Bool} {q : Nat} (h1 : zs = r.1) (h0 : ok = r.2) (h2 : q = zs.length) (h : Calls Tryd.prog f args w fun e w' => ∃ B m cb, e = .returned (.tuple #[.slice B m cb, .bool r.2]) ∧ m = r.1.length ∧ w'.ownsRow w.heap.size 3 1 (.slice B m cb) m (r.1.map intV) ∧ Below w.heap.size w w') :
    Calls Tryd.prog f args w fun e w' => ∃ B cb, e = .returned (.tuple #[.slice B q cb, .bool ok]) ∧ w'.ownsRow w.heap.size 3 1 (.slice B q cb) q (zs.map intV) ∧ Below w.heap.size w w' :=
  h.mono fun e w' ⟨A, k, c, e1, e2, e3, e4⟩ => by
    subst h1 h2 h0 e2
    exact ⟨A, c, e1, e3, e4⟩

set_option maxRecDepth 100000 in
set_option maxHeartbeats 16000000 in
theorem FnExactParseLabel_walk (s : ByteArray) (w : World) (hs : s.size ≤ maxLen) (ht : Pow10 w) (he : Errs w) :
    Calls Tryd.prog 5 #[.string s] w fun e w' => e = .returned (.bool true) ∧ Below w.heap.size w w' := by
  have HTT := Lib.hid ht
  have HER := Lib.hid he
  have hs2 := hs
  unfold maxLen at hs2
  clear hs ht he
  by_cases hlong : s.size ≤ 1048576
  · have hl1 : ¬ ((1048576 : Int) < s.size) := by omega
    obtain ⟨zs, hzs⟩ : ∃ t, t = (parL s).1 := ⟨_, rfl⟩
    obtain ⟨ok, hok⟩ : ∃ t, t = (parL s).2 := ⟨_, rfl⟩
    obtain ⟨q, hq⟩ : ∃ t, t = zs.length := ⟨_, rfl⟩
    have hqb : q ≤ 1048576 := by rw [hq, hzs]; have := parL_len s; omega
    have HSP := Lib.hid (fun W => intsb_c7 hzs hok hq (spec_ParseLabel s W hlong))
    have HIM := Lib.hid (fun W (hb : Below w.heap.size w W) => intsb_c7 hzs hok hq (impl_ParseLabel s W hlong (var_kept hb HTT.out) (HER.out.kept hb)))
    have hoo : (ok != ok) = false := by simp
    have HEE := Lib.hid (fun D E c1 c2 W h1 h2 => eqIntS_sl zs D E q c1 c2 W hq.symm (by unfold maxLen; omega) h1 h2)
    clear hzs hq hok
    have t2 : ¬ ((1 : Int) + (q : Int) < 0) := by omega
    have t3 : (((1 : Int) + (q : Int)) != (1 : Int) + (q : Int)) = false := by simp
    go_enter Tryd.func5, Tryd.ntmps5
    have B_w : Below w.heap.size w w := Below.refl _ _
    go_wp2_with fail
    refine (HSP.out _).mono ?_
    rintro e uc ⟨D3, d3, rfl, hh, bh⟩
    have lt3 := hh.lt
    obtain ⟨e1, he1⟩ : ∃ e, e = uc.heap.size := ⟨_, rfl⟩
    have ltD : ∀ x, (Value.slice D3 q d3).ownBlock = some x → w.heap.size ≤ x ∧ x < e1 := fun x hx => by have := lt3 x hx; omega
    have g3 := Lib.hid hh
    clear hh lt3
    have B_uc : Below w.heap.size w uc := B_w.trans (bh.mono B_w.size)
    clear   bh
    have oD_uc := g3
    clear g3
    have e1s : w.heap.size ≤ e1 := by rw [he1]; exact B_uc.size
    go_wp2_with fail
    refine (HIM.out _ B_uc).mono ?_
    rintro e uf ⟨D5, d5, rfl, hh, bh⟩
    have lt6 := hh.lt
    obtain ⟨e4, he4⟩ : ∃ e, e = uf.heap.size := ⟨_, rfl⟩
    have ltY : ∀ x, (Value.slice D5 q d5).ownBlock = some x → e1 ≤ x ∧ x < e4 := fun x hx => by have := lt6 x hx; omega
    have g6 := Lib.hid hh
    clear hh lt6
    have B_uf : Below w.heap.size w uf := B_uc.trans (bh.mono B_uc.size)
    have oD_uf := Lib.hid (own_below oD_uc.out bh)
    clear  oD_uc bh
    have oY_uf := g6
    clear g6
    go_wp2_with fail
    refine (HEE.out D5 D3 d5 d3 _ (own_row oY_uf.out) (own_row oD_uf.out)).mono ?_
    rintro e uo ⟨rfl, bh⟩
    have B_uo : Below w.heap.size w uo := B_uf.trans (bh.mono B_uf.size)
    have oD_uo := Lib.hid (own_below oD_uf.out bh)
    have oY_uo := Lib.hid (own_below oY_uf.out bh)
    clear  oD_uf oY_uf bh
    have hmk := markIntS_any D5 q d5 _ 1 (zs.map intV) uo (by omega) (by omega) oY_uo.out
    rw [show ((1 : Nat) : Int) = 1 from rfl] at hmk
    have HMK := Lib.hid hmk
    clear hmk
    go_wp2_with fail
    refine (HMK.out).mono ?_
    rintro e up ⟨rfl, oY, hg11⟩
    have bm : Below uo.heap.size uo uo := Below.refl _ _
    have B_up : Below w.heap.size w up := (B_uo.trans (bm.mono B_uo.size)).grown hg11 (Nat.le_trans B_uo.size bm.size) (fun q hq => by have := ltY q hq; omega)
    have oD_up := Lib.hid ((own_below oD_uo.out bm).kept hg11 (own_off7 ltD ltY))
    have oY_up := Lib.hid oY
    clear bm hg11 HMK oY
    clear  oD_uo oY_uo 
    have hhd := fun (W : World) h => heldIntS_any D5 q d5 1 W (by omega) (by omega) h
    rw [show ((1 : Nat) : Int) = 1 from rfl] at hhd
    have HHD := Lib.hid hhd
    clear hhd
    go_wp2_with fail
    refine (HHD.out _ (own_row oY_up.out)).mono ?_
    rintro e uq ⟨rfl, hw12⟩
    have b12 : Below up.heap.size up uq := by rw [hw12]; exact Below.refl _ _
    clear hw12
    have B_uq : Below w.heap.size w uq := B_up.trans (b12.mono B_up.size)
    have oD_uq := Lib.hid (own_below oD_up.out b12)
    have oY_uq := Lib.hid (own_below oY_up.out b12)
    clear  oD_up oY_up b12
    go_wp2_with fail
    refine (HIM.out _ B_uq).mono ?_
    rintro e ut ⟨D14, d14, rfl, hh, bh⟩
    have g14 := Lib.hid hh
    clear hh
    have B_ut : Below w.heap.size w ut := B_uq.trans (bh.mono B_uq.size)
    have oD_ut := Lib.hid (own_below oD_uq.out bh)
    have oY_ut := Lib.hid (own_below oY_uq.out bh)
    clear  oD_uq oY_uq bh
    have oZ_ut := g14
    clear g14
    go_wp2_with fail
    refine (HEE.out D14 D3 d14 d3 _ (own_row oZ_ut.out) (own_row oD_ut.out)).mono ?_
    rintro e uv ⟨rfl, bh⟩
    have B_uv : Below w.heap.size w uv := B_ut.trans (bh.mono B_ut.size)
    have oD_uv := Lib.hid (own_below oD_ut.out bh)
    have oY_uv := Lib.hid (own_below oY_ut.out bh)
    have oZ_uv := Lib.hid (own_below oZ_ut.out bh)
    clear  oD_ut oY_ut oZ_ut bh
    go_wp2_with fail
    refine (HHD.out _ (own_row oY_uv.out)).mono ?_
    rintro e uw ⟨rfl, hw16⟩
    have B_uw : Below w.heap.size w uw := by rw [hw16]; exact B_uv
    clear hw16
    go_wp2_with fail
    go_ret
    exact ⟨rfl, B_uw⟩
  · have hl1 : ((1048576 : Int) < s.size) := by omega
    go_enter Tryd.func5, Tryd.ntmps5
    go_wp2_with fail
    go_ret
    exact ⟨rfl, Below.refl _ _⟩

/-! ### FnExactParseLabel: the row and its card -/

theorem FnExactParseLabel_reads (os : Os) {H : Type} (enc : TypeId × Value → H) : ∃ places, DataW.whole enc Tryd.prog ((World.doorLaid Tryd.prog 400 os).forCall (fun _ _ => 0) ⟨#[], #[.string ⟨#[]⟩], []⟩).memory Tryd.f5.params.toList Rows.fnExactParseLabelSpec.vars false (#[.string ⟨#[]⟩] : Array Value).toList 8 = some ([.lit (.string [])], [], places) :=
  ⟨[], by kernel_rfl⟩
theorem FnExactParseLabel_met (os : Os) (args : Array Value) : laidMetH Tryd.prog Rows.fnExactParseLabelRow.laid ((World.doorLaid Tryd.prog 400 os).forCall (fun _ _ => 0) ⟨#[], args, []⟩).memory :=
  laidMetH_of_parts3 (fuel := 8) (laidMet_of_run' 8 (by kernel_rfl) (by kernel_rfl)) (by kernel_rfl) (by kernel_rfl)

set_option maxRecDepth 100000 in
theorem FnExactParseLabel_lifted (os : Os) (started : os.Started) (H : Type) (enc : TypeId × Value → H) (F : Stop.Interp) :
    ReturnsInHanded {} Tryd.checked os 5 .any ((OpenSpec.ofChange Rows.fnExactParseLabelSpec).preRow enc Tryd.prog Tryd.f5 Rows.fnExactParseLabelRow.domain false Rows.fnExactParseLabelRow.laid) (((OpenSpec.ofChange Rows.fnExactParseLabelSpec).at F).post enc Tryd.prog Tryd.f5 false true false false) := by
  obtain ⟨places, hx⟩ := FnExactParseLabel_reads os enc
  refine returnsInHanded_of_row (C := Tryd.checked) (s := OpenSpec.ofChange Rows.fnExactParseLabelSpec) (by kernel_rfl) started (by kernel_rfl) Tryd.func5
    (witness_row_atRef (enc := enc) (C := Tryd.checked) false (World.doorLaid Tryd.prog 400 os) #[.string ⟨#[]⟩] rfl (by kernel_rfl) (by kernel_rfl) (by kernel_rfl)
      (OpenSpec.preRow_of_cond 8 hx (by kernel_rfl) (fun k hk => by cases hk) (by kernel_rfl) (FnExactParseLabel_met os _))) ?_
  intro W base args ds gs before hval0 hW _ _ _ hL0 _ _
  have hL : laidMet Tryd.prog Rows.fnExactParseLabelRow.laid W := by
    rw [← MakeChecks.laidMetH_plain _ _ _ (by kernel_rfl)]
    exact hL0
  have hval : ∀ (j : Nat) t v, Tryd.f5.params[j]? = some t → args[j]? = some v → Value.okWide Tryd.prog W .any base t v := hval0
  have hW2 := hW
  obtain ⟨p, q, hA0, hV, hpq, hfz, hnd⟩ := hW2
  have hA : DataW.TrodAll enc Tryd.prog W 0 (fun _ => true) true Tryd.f5.params.toList args.toList ds p := hA0
  rw [Tryd.params5] at hA hval
  obtain ⟨v0, d0, hargs, hds, h0⟩ := trodAll_one hA
  obtain ⟨hgs, hq⟩ := trodVars_none hV
  subst hargs
  subst hds
  subst hgs
  obtain ⟨a0, rfl, rfl, _, w0⟩ := open_string Tryd.underlying9 (hval 0 9 v0 rfl rfl) h0

  refine (FnExactParseLabel_walk a0 W w0 (pow10_of rfl hL.tail.tail) (errs_of hL.tail.tail.tail)).mono fun e W2 ⟨he, hb⟩ => ?_
  subst he
  exact ⟨_, rfl, law_post (by kernel_rfl) (by rw [Tryd.params5]; decide +kernel) (by kernel_rfl) Tryd.underlying4 rfl ⟨rfl, rfl, rfl⟩ hW hb⟩

theorem FnExactParseLabel_said : Rows.FnExactParseLabelSaid :=
  OpenClaim.holds_of_cond 5 Tryd.f5 rfl rfl rfl rfl rfl rfl rfl ⟨rfl, rfl, rfl, rfl, rfl⟩ rfl rfl rfl rfl rfl (by kernel_rfl) Tryd.func5 (by kernel_rfl)
    (of_decide_eq_true (by kernel_rfl)) (by unfold Func.isWrapper; first | (rw [if_pos (by decide +kernel)]; kernel_rfl) | (rw [if_neg (by decide +kernel)]; exact ⟨rfl, rfl⟩))
    (fun os started H enc _ F => by rw [OpenClaim.pre_eq_preRow]; exact FnExactParseLabel_lifted os started H enc F)

/-- No parameter wants a stand-in. -/
theorem FnExactParseLabel_plain (f : FuncId) (fn : Func) (hf : Tryd.pinned.checked.prog.funcNamed "loop.example/g00827/laws.FnExactParseLabel" = some f) (hfn : Tryd.pinned.checked.prog.funcs[f]? = some fn) :
    true = Tryd.pinned.checked.prog.looks [] ∧ ∀ (j : Nat) t, fn.params[j]? = some t → Tryd.pinned.checked.prog.wantsStandIn t = false := by
  obtain rfl : f = 5 := Option.some.inj ((show Tryd.prog.funcNamed "loop.example/g00827/laws.FnExactParseLabel" = some 5 by kernel_rfl).symm.trans hf) |>.symm
  obtain rfl : fn = Tryd.f5 := (Option.some.inj (Tryd.func5.symm.trans hfn)).symm
  refine ⟨by kernel_rfl, fun j t ht => ?_⟩
  rw [Tryd.params5] at ht
  have hm : t ∈ [9] := by simpa using Array.mem_of_getElem? ht
  have hall : ([9].all fun u => !Tryd.prog.wantsStandIn u) = true := by kernel_rfl
  exact (show Tryd.prog.wantsStandIn t = false by simpa using List.all_eq_true.1 hall t hm)

theorem FnExactParseLabel_card : Rows.FnExactParseLabelCardSaid :=
  Claim7.holds_tied_plain_at .later [] _ _ _ _ FnExactParseLabel_said (fun _ h => by cases h) (by kernel_rfl) (fun _ h => by cases h) fnExactParseLabel_row_tie rfl ⟨rfl, rfl⟩ (by kernel_rfl) rfl FnExactParseLabel_plain (by kernel_rfl)

end Go.Proofs.YtaokabkffnjbjaaDoor

