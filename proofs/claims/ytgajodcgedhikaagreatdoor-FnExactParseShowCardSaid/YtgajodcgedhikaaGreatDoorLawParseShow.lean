/-
  laws.FnExactParseShow HOLDS, AND ITS TIED CARD: whatever the string, impl.ParseShow answers as spec.ParseShow does, and the answer's memory is its own.
-/
import Derived.Test.YtgajodcgedhikaaGreatDoorCards
import Derived.Test.YtgajodcgedhikaaGreatDoorTie
import Derived.Test.YtgajodcgedhikaaGreatDoorFrame
import Derived.Test.YtgajodcgedhikaaGreatDoorBdIvOk
import Derived.Test.YtgajodcgedhikaaGreatDoorBdShR
import Derived.Test.YtgajodcgedhikaaGreatDoorBdPxB
import Derived.ProofKit
import Derived.Lib.SmallJoins
import Derived.Deep.RegionHeld3
import Derived.Deep.CutRange
import Derived.Deep.DeepHandedRow
import Derived.Deep.DeepWitnessRowRef
import Derived.LaidMore
import Derived.LaidHandle
import Derived.MakeChecks
import Derived.Stop.LaidErr
import Derived.Lib.LaidTab
namespace Go.Proofs.YtgajodcgedhikaaGreatDoor
open Go.RowKit Go.ChangeShapes Go.WideShapes Go.ChangeAt Go.WideMaps Go.WideElems
open Go.ChangeMaps (open_string shut_string)
set_option linter.unusedVariables false
set_option linter.unusedSimpArgs false

theorem psR_shB (t : ByteArray) : ShB (psR t).1 := by
  rcases psR_cases t with h | ⟨s, h1, _, h3⟩
  · rw [h]
    exact PsOk.shB ⟨Nat.zero_le _, Nat.zero_le _, fun e he => by simp [gS0] at he⟩
  · rw [h3]
    show ShB s
    have hr := shR_rng h1
    refine PsOk.shB ⟨hr.2.1, hr.2.2.1, fun e he => ?_⟩
    obtain ⟨j, hj, rfl⟩ := List.getElem_of_mem he
    obtain ⟨h4, h5, _⟩ := shR_node h1 hj
    refine ⟨?_, labR_len h5⟩
    unfold nameB at h4
    rw [Bool.and_eq_true, Bool.and_eq_true, decide_eq_true_eq, decide_eq_true_eq] at h4
    have h6 := h4.1.2
    have h7 : s.ns[j].name.size = s.ns[j].name.data.toList.length := by simp
    omega
theorem ps_con {t : ByteArray} {w : World} {f : FuncId} {args : Array Value} {s : GS} {ok : Bool} {q p : Nat} (h1 : s = (psR t).1) (h2 : ok = (psR t).2) (hq : q = s.ns.length) (hp : p = s.ts.length) (h : Calls Tryz.prog f args w fun e w' => PsEnd t w w' e) :
    Calls Tryz.prog f args w fun e w' => ∃ (A : Option Addr) (c : Nat) (B : Option Addr) (d : Nat) (zs : List NL), e = .returned (.tuple #[.agg #[.slice A q c, .slice B p d, .int .i64 s.h], .bool ok]) ∧ OwnS w' w.heap.size w'.heap.size s A q c B p d zs ∧ Below w.heap.size w w' :=
  h.mono fun e w' ⟨A, k, c, B, m, d, zs, e1, e2, e3⟩ => by
    subst h1 h2
    obtain rfl : q = k := hq.trans e2.ln
    obtain rfl : p = m := hp.trans e2.lt
    exact ⟨A, c, B, d, zs, e1, e2, e3⟩
theorem Within.own9 {lo hi : Nat} {w w' : World} {B e s n : Nat} {v : Value} {xs : List Value} (k : Within lo hi w w') (h : w.ownsRow B e s v n xs) (hp : ∀ b, v.ownBlock = some b → b < lo ∨ hi ≤ b) : w'.ownsRow B e s v n xs := by
  rcases h.2 with ⟨hv, hn⟩ | ⟨g, cap, cur, hv, hB, hg, hr⟩
  · exact ⟨h.1, .inl ⟨hv, hn⟩⟩
  · subst hv
    exact ⟨h.1, .inr ⟨g, cap, cur, rfl, hB, (k.block g (Array.getElem?_eq_some_iff.1 hg).1 (hp g rfl)).trans hg, hr⟩⟩
theorem OwnS.within {w w' : World} {lo hi lo2 hi2 k c m d : Nat} {A B : Option Addr} {s : GS} {zs : List NL} (h : OwnS w lo hi s A k c B m d zs) (hw : Within lo2 hi2 w w') (hl : hi ≤ lo2) : OwnS w' lo hi s A k c B m d zs :=
  ⟨h.es, h.ln, h.lt, ⟨hw.own9 h.nodes.row (fun b hb => .inl (by have := h.nodes.le b hb; omega)), fun z hz => hw.own9 (h.nodes.lab z hz) (fun b hb => .inl (by have := (h.nodes.sep z hz b hb).2; omega)), h.nodes.sep, h.nodes.dist, h.nodes.le⟩, hw.own9 h.ties (fun b hb => .inl (by have := (h.tsep b hb).2.2; omega)), h.tsep⟩
theorem SBox.within {w w' : World} {lo hi b : Nat} {v0 v1 v2 : Value} (h : SBox w b v0 v1 v2) (hw : Within lo hi w w') (hb : b < lo ∨ hi ≤ b) : SBox w' b v0 v1 v2 := h.same (hw.block b h.lt hb)
theorem SBox.new (x : World) {v0 v1 v2 : Value} {T : TypeId} : SBox (x.alloc (.cells #[v0, v1, v2] T)) x.heap.size v0 v1 v2 := ⟨cell_new9 _ _ _ _ _ rfl, cell_new9 _ _ _ _ _ rfl, cell_new9 _ _ _ _ _ rfl, frozen_new9 _ _ _ _, frozen_new9 _ _ _ _, frozen_new9 _ _ _ _⟩

set_option maxRecDepth 100000 in
set_option maxHeartbeats 32000000 in
theorem FnExactParseShow_walk (t : ByteArray) (w : World) (hs : t.size ≤ maxLen) (ht : Pow10 w) (he : Errs w) :
    Calls Tryz.prog 3 #[.string t] w fun e w' => e = .returned (.bool true) ∧ Below w.heap.size w w' := by
  have HTT := Lib.hid ht
  have HER := Lib.hid he
  have hs2 := hs
  unfold maxLen at hs2
  clear hs ht he
  by_cases hlong : t.size ≤ 1048576
  · have hl1 : ¬ ((1048576 : Int) < t.size) := by omega
    have hshb := psR_shB t
    obtain ⟨s, hss⟩ : ∃ x, x = (psR t).1 := ⟨_, rfl⟩
    obtain ⟨ok, hok⟩ : ∃ x, x = (psR t).2 := ⟨_, rfl⟩
    obtain ⟨q, hq⟩ : ∃ x, x = s.ns.length := ⟨_, rfl⟩
    obtain ⟨p, hp⟩ : ∃ x, x = s.ts.length := ⟨_, rfl⟩
    rw [← hss] at hshb
    have HSP := Lib.hid (fun W => ps_con hss hok hq hp (spec_ParseShow t W hlong))
    have HIM := Lib.hid (fun W (hb : Below w.heap.size w W) => ps_con hss hok hq hp (impl_ParseShow t W hlong (var_kept hb HTT.out) (HER.out.kept hb)))
    have HEQ := Lib.hid (fun A1 c1 B1 d1 A2 c2 B2 d2 W h1 h2 => eqShow_same s A1 q c1 B1 p d1 A2 c2 B2 d2 W hshb h1 h2)
    have HMK := Lib.hid (fun A1 c1 B1 d1 zs lo hi W ho h1 h2 => markShow_any s A1 q c1 B1 p d1 zs lo hi 1 W (by decide) hshb (by decide) ho h1 h2)
    have HHD := Lib.hid (fun A1 c1 B1 d1 zs W (hz : nodesZ zs = s.ns) h1 => heldShow_any s A1 q c1 B1 p d1 zs 1 W (by decide) hshb (by decide) hz hq.symm hp.symm h1)
    obtain ⟨r, hr⟩ : ∃ r, r = 1 + 2 * q + slJ s.ns q + 5 * p := ⟨_, rfl⟩
    rw [← hr] at HMK HHD
    rw [show ((1 : Nat) : Int) = 1 from rfl] at HMK HHD
    have hr0 : ¬ ((r : Int) < 0) := by omega
    have hrr : ((r : Int) != (r : Int)) = false := by simp
    have hoo : (ok != ok) = false := by simp
    obtain ⟨h, hh⟩ : ∃ h, h = s.h := ⟨_, rfl⟩
    rw [← hh] at HSP HIM HEQ HMK HHD
    unfold shV at HEQ HMK HHD
    clear hss hok hq hp hr hh hshb
    go_enter Tryz.func3, Tryz.ntmps3
    go_wp2_with fail
    refine (HSP.out _).mono ?_
    rintro e w1 ⟨A3, c3, B3, d3, zs3, rfl, ho3, b1⟩
    have OA := Lib.hid (ho3.alloc (.cells #[.slice A3 q c3, .slice B3 p d3, .int .i64 h] 25))
    have XA := Lib.hid (SBox.new w1 (v0 := .slice A3 q c3) (v1 := .slice B3 p d3) (v2 := .int .i64 h) (T := 25))
    have BA := Lib.hid (b1.alloc b1.size (.cells #[.slice A3 q c3, .slice B3 p d3, .int .i64 h] 25))
    obtain ⟨e1, he1⟩ : ∃ e, e = w1.heap.size := ⟨_, rfl⟩
    have hw1 : w.heap.size ≤ e1 := by rw [he1]; exact b1.size
    clear ho3 b1
    go_wp2_with fail
    refine (HIM.out _ BA.out).mono ?_
    rintro e w2 ⟨A5, c5, B5, d5, zs5, rfl, ho5, b2⟩
    have z2 := b2.size
    simp at z2
    have OA2 := Lib.hid ((OA.out.below b2).alloc (.cells #[.slice A5 q c5, .slice B5 p d5, .int .i64 h] 25))
    have XA2 := Lib.hid ((XA.out.below b2).alloc (.cells #[.slice A5 q c5, .slice B5 p d5, .int .i64 h] 25))
    have OG2 := Lib.hid (ho5.alloc (.cells #[.slice A5 q c5, .slice B5 p d5, .int .i64 h] 25))
    have XG2 := Lib.hid (SBox.new w2 (v0 := .slice A5 q c5) (v1 := .slice B5 p d5) (v2 := .int .i64 h) (T := 25))
    have B2 := Lib.hid ((BA.out.trans (b2.mono BA.out.size)).alloc (by omega) (.cells #[.slice A5 q c5, .slice B5 p d5, .int .i64 h] 25))
    clear ho5 b2 OA XA BA
    obtain ⟨x0, x1, x2, _, _, _⟩ := XG2.out
    obtain ⟨y0, y1, y2, _, _, _⟩ := XA2.out
    have zx := XA2.out.lt
    go_wp2_with fail
    refine (HEQ.out _ _ _ _ _ _ _ _ _ OG2.out.at_ OA2.out.at_).mono ?_
    rintro e w3 ⟨rfl, b3⟩
    have OA3 := Lib.hid (OA2.out.below b3)
    have XA3 := Lib.hid (XA2.out.below b3)
    have OG3 := Lib.hid (OG2.out.below b3)
    have XG3 := Lib.hid (XG2.out.below b3)
    have B3 := Lib.hid (B2.out.trans (b3.mono B2.out.size))
    have z3 := b3.size
    simp at z3
    clear b3 OA2 XA2 OG2 XG2 B2 x0 x1 x2 y0 y1 y2 zx
    obtain ⟨x0, x1, x2, _, _, _⟩ := XG3.out
    go_wp2_with fail
    refine (HMK.out _ _ _ _ _ _ _ _ OG3.out (by omega) (by simp; omega)).mono ?_
    rintro e w4 ⟨rfl, ho4, hwi⟩
    have OA4 := Lib.hid (OA3.out.within hwi (by simp))
    have XA4 := Lib.hid (XA3.out.within hwi (.inl (by simp)))
    have XG4 := Lib.hid (XG3.out.within hwi (.inr (Nat.le_refl _)))
    have OG4 := Lib.hid ho4
    have B4 := Lib.hid (B3.out.trans ((hwi.below (by simp; omega)).mono (by simp; omega)))
    have z4 := hwi.size
    have hz5 := Lib.hid OG3.out.es
    clear ho4 hwi OA3 XA3 OG3 XG3 B3 x0 x1 x2
    obtain ⟨x0, x1, x2, _, _, _⟩ := XG4.out
    go_wp2_with fail
    refine (HHD.out _ _ _ _ zs5 _ hz5.out OG4.out.at_).mono ?_
    rintro e w5 ⟨rfl, b5⟩
    have OA5 := Lib.hid (OA4.out.below b5)
    have XA5 := Lib.hid (XA4.out.below b5)
    have OG5 := Lib.hid (OG4.out.below b5)
    have XG5 := Lib.hid (XG4.out.below b5)
    have B5 := Lib.hid (B4.out.trans (b5.mono B4.out.size))
    clear b5 OA4 XA4 OG4 XG4 B4 x0 x1 x2
    go_wp2_with fail
    refine (HIM.out _ B5.out).mono ?_
    rintro e w6 ⟨A9, c9, B9, d9, zs9, rfl, ho9, b6⟩
    have OA6 := Lib.hid ((OA5.out.below b6).alloc (.cells #[.slice A9 q c9, .slice B9 p d9, .int .i64 h] 25))
    have XA6 := Lib.hid ((XA5.out.below b6).alloc (.cells #[.slice A9 q c9, .slice B9 p d9, .int .i64 h] 25))
    have OG6 := Lib.hid ((OG5.out.below b6).alloc (.cells #[.slice A9 q c9, .slice B9 p d9, .int .i64 h] 25))
    have XG6 := Lib.hid ((XG5.out.below b6).alloc (.cells #[.slice A9 q c9, .slice B9 p d9, .int .i64 h] 25))
    have OH6 := Lib.hid (ho9.alloc (.cells #[.slice A9 q c9, .slice B9 p d9, .int .i64 h] 25))
    have XH6 := Lib.hid (SBox.new w6 (v0 := .slice A9 q c9) (v1 := .slice B9 p d9) (v2 := .int .i64 h) (T := 25))
    have B6 := Lib.hid ((B5.out.trans (b6.mono B5.out.size)).alloc (B5.out.trans (b6.mono B5.out.size)).size (.cells #[.slice A9 q c9, .slice B9 p d9, .int .i64 h] 25))
    clear ho9 b6 OA5 XA5 OG5 XG5 B5
    obtain ⟨x0, x1, x2, _, _, _⟩ := XH6.out
    obtain ⟨y0, y1, y2, _, _, _⟩ := XA6.out
    go_wp2_with fail
    refine (HEQ.out _ _ _ _ _ _ _ _ _ OH6.out.at_ OA6.out.at_).mono ?_
    rintro e w7 ⟨rfl, b7⟩
    have OG7 := Lib.hid (OG6.out.below b7)
    have XG7 := Lib.hid (XG6.out.below b7)
    have B7 := Lib.hid (B6.out.trans (b7.mono B6.out.size))
    clear b7 OA6 XA6 OG6 XG6 OH6 XH6 B6 x0 x1 x2 y0 y1 y2
    obtain ⟨x0, x1, x2, _, _, _⟩ := XG7.out
    go_wp2_with fail
    refine (HHD.out _ _ _ _ zs5 _ hz5.out OG7.out.at_).mono ?_
    rintro e w8 ⟨rfl, b8⟩
    have B8 := Lib.hid (B7.out.trans (b8.mono B7.out.size))
    clear b8
    go_wp2_with fail
    go_ret
    exact ⟨rfl, B8.out⟩
  · have hl1 : ((1048576 : Int) < t.size) := by omega
    go_enter Tryz.func3, Tryz.ntmps3
    go_wp2_with fail
    go_ret
    exact ⟨rfl, Below.refl _ _⟩

/-! ### FnExactParseShow: the row and its card -/

theorem FnExactParseShow_reads (os : Os) {H : Type} (enc : TypeId × Value → H) : ∃ places, DataW.whole enc Tryz.prog ((World.doorLaid Tryz.prog 400 os).forCall (fun _ _ => 0) ⟨#[], #[.string ⟨#[]⟩], []⟩).memory Tryz.f3.params.toList Rows.fnExactParseShowSpec.vars false (#[.string ⟨#[]⟩] : Array Value).toList 8 = some ([.lit (.string [])], [], places) :=
  ⟨[], by kernel_rfl⟩
theorem FnExactParseShow_met (os : Os) (args : Array Value) : laidMetH Tryz.prog Rows.fnExactParseShowRow.laid ((World.doorLaid Tryz.prog 400 os).forCall (fun _ _ => 0) ⟨#[], args, []⟩).memory :=
  laidMetH_of_parts3 (fuel := 8) (laidMet_of_run' 8 (by kernel_rfl) (by kernel_rfl)) (by kernel_rfl) (by kernel_rfl)

set_option maxRecDepth 100000 in
theorem FnExactParseShow_lifted (os : Os) (started : os.Started) (H : Type) (enc : TypeId × Value → H) (F : Stop.Interp) :
    ReturnsInHanded {} Tryz.checked os 3 .any ((OpenSpec.ofChange Rows.fnExactParseShowSpec).preRow enc Tryz.prog Tryz.f3 Rows.fnExactParseShowRow.domain false Rows.fnExactParseShowRow.laid) (((OpenSpec.ofChange Rows.fnExactParseShowSpec).at F).post enc Tryz.prog Tryz.f3 false true false false) := by
  obtain ⟨places, hx⟩ := FnExactParseShow_reads os enc
  refine returnsInHanded_of_row (C := Tryz.checked) (s := OpenSpec.ofChange Rows.fnExactParseShowSpec) (by kernel_rfl) started (by kernel_rfl) Tryz.func3
    (witness_row_atRef (enc := enc) (C := Tryz.checked) false (World.doorLaid Tryz.prog 400 os) #[.string ⟨#[]⟩] rfl (by kernel_rfl) (by kernel_rfl) (by kernel_rfl)
      (OpenSpec.preRow_of_cond 8 hx (by kernel_rfl) (fun k hk => by cases hk) (by kernel_rfl) (FnExactParseShow_met os _))) ?_
  intro W base args ds gs before hval0 hW _ _ _ hL0 _ _
  have hL : laidMet Tryz.prog Rows.fnExactParseShowRow.laid W := by
    rw [← MakeChecks.laidMetH_plain _ _ _ (by kernel_rfl)]
    exact hL0
  have hval : ∀ (j : Nat) t v, Tryz.f3.params[j]? = some t → args[j]? = some v → Value.okWide Tryz.prog W .any base t v := hval0
  have hW2 := hW
  obtain ⟨p, q, hA0, hV, hpq, hfz, hnd⟩ := hW2
  have hA : DataW.TrodAll enc Tryz.prog W 0 (fun _ => true) true Tryz.f3.params.toList args.toList ds p := hA0
  rw [Tryz.params3] at hA hval
  obtain ⟨v0, d0, hargs, hds, h0⟩ := trodAll_one hA
  obtain ⟨hgs, hq⟩ := trodVars_none hV
  subst hargs
  subst hds
  subst hgs
  obtain ⟨a0, rfl, rfl, _, w0⟩ := open_string Tryz.underlying9 (hval 0 9 v0 rfl rfl) h0

  refine (FnExactParseShow_walk a0 W w0 (pow10_of rfl hL.tail.tail) (errs_of hL.tail.tail.tail)).mono fun e W2 ⟨he, hb⟩ => ?_
  subst he
  exact ⟨_, rfl, law_post (by kernel_rfl) (by rw [Tryz.params3]; decide +kernel) (by kernel_rfl) Tryz.underlying4 rfl ⟨rfl, rfl, rfl⟩ hW hb⟩

theorem FnExactParseShow_said : Rows.FnExactParseShowSaid :=
  OpenClaim.holds_of_cond 3 Tryz.f3 rfl rfl rfl rfl rfl rfl rfl ⟨rfl, rfl, rfl, rfl, rfl⟩ rfl rfl rfl rfl rfl (by kernel_rfl) Tryz.func3 (by kernel_rfl)
    (of_decide_eq_true (by kernel_rfl)) (by unfold Func.isWrapper; first | (rw [if_pos (by decide +kernel)]; kernel_rfl) | (rw [if_neg (by decide +kernel)]; exact ⟨rfl, rfl⟩))
    (fun os started H enc _ F => by rw [OpenClaim.pre_eq_preRow]; exact FnExactParseShow_lifted os started H enc F)

/-- No parameter wants a stand-in. -/
theorem FnExactParseShow_plain (f : FuncId) (fn : Func) (hf : Tryz.pinned.checked.prog.funcNamed "loop.example/g00827/laws.FnExactParseShow" = some f) (hfn : Tryz.pinned.checked.prog.funcs[f]? = some fn) :
    true = Tryz.pinned.checked.prog.looks [] ∧ ∀ (j : Nat) t, fn.params[j]? = some t → Tryz.pinned.checked.prog.wantsStandIn t = false := by
  obtain rfl : f = 3 := Option.some.inj ((show Tryz.prog.funcNamed "loop.example/g00827/laws.FnExactParseShow" = some 3 by kernel_rfl).symm.trans hf) |>.symm
  obtain rfl : fn = Tryz.f3 := (Option.some.inj (Tryz.func3.symm.trans hfn)).symm
  refine ⟨by kernel_rfl, fun j t ht => ?_⟩
  rw [Tryz.params3] at ht
  have hm : t ∈ [9] := by simpa using Array.mem_of_getElem? ht
  have hall : ([9].all fun u => !Tryz.prog.wantsStandIn u) = true := by kernel_rfl
  exact (show Tryz.prog.wantsStandIn t = false by simpa using List.all_eq_true.1 hall t hm)

theorem FnExactParseShow_card : Rows.FnExactParseShowCardSaid :=
  Claim7.holds_tied_plain_at .later [] _ _ _ _ FnExactParseShow_said (fun _ h => by cases h) (by kernel_rfl) (fun _ h => by cases h) fnExactParseShow_row_tie rfl ⟨rfl, rfl⟩ (by kernel_rfl) rfl FnExactParseShow_plain (by kernel_rfl)

end Go.Proofs.YtgajodcgedhikaaGreatDoor

