/-
  laws.FnCycles HOLDS: whatever the bytes that the graph is drawn of: a negative cycle that is reported is one, and there is one whenever distances do not exist; the bytes read as they did. No condition.
-/
import Derived.Test.YtdjaiijgdflopaaRows
import Derived.Test.YtdjaiijgdflopaaFrame
import Derived.Test.YtdjaiijgdflopaaGmB
import Derived.Test.YtdjaiijgdflopaaCgA
import Derived.Test.YtdjaiijgdflopaaGrZ
import Derived.Test.YtdjaiijgdflopaaGrQ
import Derived.Test.YtdjaiijgdflopaaGrW
import Derived.Deep.RegionHeld3
import Derived.Deep.CutRange
import Derived.ProofKit
import Derived.Lib.SmallJoins
namespace Go.Proofs.Ytdjaiijgdflopaa
open Go.RowKit Go.ChangeShapes Go.WideShapes Go.ChangeAt Go.WideMaps Go.WideElems
set_option linter.unusedVariables false
set_option linter.unusedSimpArgs false
theorem cells_u8 : Try.prog.cellsOf 5 = 1 := by kernel_rfl

/-- A slice of bytes that comes in, nil or not: its length, and that its cells hold bytes, below whatever block the call makes. -/
theorem bytes_in {H : Type} {enc : TypeId × Value → H} {P : Program} {W : World} {t e : TypeId} {fuel n c : Nat} {A : Option Addr} {x : DataW H × List MemPlace}
    (ht : P.underlying t = some (.slice e)) (he : P.underlying e = some (.int .u8)) (hc : P.cellsOf e = 1)
    (hf : DataW.trod enc P W 0 (fun _ => true) true fuel t (Value.slice A n c).cells.toList = some x) :
    n ≤ maxLen ∧ Bytes W W.heap.size A n := by
  rcases open_ints ht he hc hf with ⟨hcs, _⟩ | ⟨a, len, cap, zs, hcs, _, hl, hm, hz, _, hcell, hws⟩
  · simp [Value.cells] at hcs
    obtain ⟨rfl, rfl, rfl⟩ := hcs
    exact ⟨Nat.zero_le _, fun h => by omega⟩
  · simp [Value.cells] at hcs
    obtain ⟨rfl, rfl, rfl⟩ := hcs
    have hlen : zs.length = c := by simpa using hz
    refine ⟨by omega, fun hp => ?_⟩
    have h0 := hcell 0 (by omega)
    obtain ⟨b, off, spot⟩ := a
    have hspot : spot = none := by simpa [Addr.add] using World.cell?_spot h0
    subst hspot
    have hb : b < W.heap.size := by
      rcases Nat.lt_or_ge b W.heap.size with hlt | hge
      · exact hlt
      · have : W.heap[b]? = none := Array.getElem?_eq_none hge
        simp [Addr.add, World.cell?, this] at h0
    refine ⟨b, off, rfl, hb, by omega, fun j hj => ?_⟩
    have hw := hws (zs.getD j 0) (by
      rw [List.getD_eq_getElem?_getD, List.getElem?_eq_getElem (by omega)]
      exact List.getElem_mem _)
    have hb2 : 0 ≤ zs.getD j 0 ∧ zs.getD j 0 ≤ 255 := by
      simpa [Lit.wf, IntKind.min, IntKind.max, IntKind.signed, IntKind.bits] using hw
    exact ⟨zs.getD j 0, hb2.1, hb2.2, by rw [← Go.WideShapes.add_plain]; exact hcell j (by omega)⟩

theorem CgEnd.con {n : Int} {es : List GE} {w : World} {f : FuncId} {args : Array Value} {t0 : Int} {zs : List Int} {ok : Bool} {m : Nat} (h1 : t0 = (closeR n es).1) (h2 : zs = (closeR n es).2.1) (h3 : ok = (closeR n es).2.2) (hm : m = zs.length) (h : Calls Try.prog f args w fun e w' => CgEnd n es w e w') :
    Calls Try.prog f args w fun e w' => ∃ B cb, e = .returned (.tuple #[.agg #[.int .i64 t0, .slice B m cb], .bool ok]) ∧ w'.ownsRow w.heap.size 3 1 (.slice B m cb) m (zs.map intV) ∧ Below w.heap.size w w' :=
  h.mono fun e w' ⟨A, k, c, e1, e2, e3, e4⟩ => by
    subst h1 h2 h3 hm e2
    exact ⟨A, c, e1, e3, e4⟩
theorem own_edge {W : World} {B t k c : Nat} {A : Option Addr} {es : List GE} (h : W.ownsRow B t 3 (.slice A k c) k (cellsE es)) : EdgeAt W A es := by
  obtain ⟨_, _, hv, _, hE⟩ := ownE_form h
  injection hv with hv
  rw [hv]; exact hE
theorem nc_con {n : Int} {es : List GE} {w : World} {f : FuncId} {args : Array Value} {cs : List Int} {q : Nat} (h1 : cs = cycR n es) (h2 : q = cs.length) (h : Calls Try.prog f args w fun e w' => ∃ B m cb, e = .returned (.slice B m cb) ∧ m = (cycR n es).length ∧ w'.ownsRow w.heap.size 3 1 (.slice B m cb) m ((cycR n es).map intV) ∧ Below w.heap.size w w') :
    Calls Try.prog f args w fun e w' => ∃ B cb, e = .returned (.slice B q cb) ∧ w'.ownsRow w.heap.size 3 1 (.slice B q cb) q (cs.map intV) ∧ Below w.heap.size w w' :=
  h.mono fun e w' ⟨A, k, c, e1, e2, e3, e4⟩ => by
    subst h1 h2 e2
    exact ⟨A, c, e1, e3, e4⟩
theorem cycle_facts {N : Nat} {es : List GE} (hok : okG N es = true) :
    ((cycR N es).length = 0 ∧ (closeR N es).2.2 = true) ∨ (0 < (cycR N es).length ∧ (closeR N es).2.2 = false ∧ negC N es (cycR N es) = true ∧ pathW N es (cycR N es) < 0) := by
  by_cases h : closeOk N es = true
  · exact .inl ⟨by rw [cycR_nil ((close_iff hok).1 h)]; rfl, by rw [closeR_yes hok h]⟩
  · have h2 : (endC N es).2 ≠ -1 := fun e => h ((close_iff hok).2 e)
    have h3 := cyc_isneg hok h2
    refine .inr ⟨?_, by rw [closeR_no (fun hh => h (by simpa using hh.2))], h3, cyc_path_neg hok h2⟩
    unfold negC at h3
    simp only [Bool.and_eq_true, decide_eq_true_eq] at h3
    exact h3.1.1.2
theorem pathW_nil (n : Int) (es : List GE) : pathW n es [] = 0 := by unfold pathW; split <;> rfl
theorem negC_nil (n : Int) (es : List GE) : negC n es [] = false := by simp [negC]
theorem row_nil (W : World) (A : Option Addr) : RowAt W A [] := fun h => by simp at h

set_option maxRecDepth 100000 in
set_option maxHeartbeats 16000000 in
theorem FnCycles_walk (A : Option Addr) (n c : Nat) (w : World) (hby : Bytes w w.heap.size A n) :
    Calls Try.prog 4 #[.slice A n c] w fun e w' => e = .returned (.bool true) ∧ Below w.heap.size w w' := by
  by_cases h : n ≤ 1048576
  · have HMG := Lib.hid (MakeGraph_any A n c w h hby)
    have hlt : ¬ ((1048576 : Int) < (n : Int)) := by omega
    have B_w : Below w.heap.size w w := Below.refl _ _
    clear hby
    go_enter Try.func4, Try.ntmps4
    go_wp2_with fail
    refine HMG.out.mono ?_
    rintro e w1 ⟨N, es, D1, k, c1, rfl, hN1, hN5, hek, hk9, hD, ho1, bb1⟩
    have hokg : okG N es = true := dr_okG hN1 hN5 (by omega) hD
    have HOK := Lib.hid hokg
    have HT := Lib.hid (dr_tiny hD)
    have HL := Lib.hid hek
    have hF := cycle_facts hokg
    obtain ⟨t0, ht0⟩ : ∃ t, t = (closeR N es).1 := ⟨_, rfl⟩
    obtain ⟨zs, hzs⟩ : ∃ t, t = (closeR N es).2.1 := ⟨_, rfl⟩
    obtain ⟨ok, hok⟩ : ∃ t, t = (closeR N es).2.2 := ⟨_, rfl⟩
    obtain ⟨m, hml⟩ : ∃ t, t = zs.length := ⟨_, rfl⟩
    obtain ⟨cs, hcs⟩ : ∃ t, t = cycR N es := ⟨_, rfl⟩
    obtain ⟨q, hq⟩ : ∃ t, t = cs.length := ⟨_, rfl⟩
    have hk20 : k ≤ 1048576 := by omega
    have HCG := Lib.hid (fun A' c' W h' => CgEnd.con ht0 hzs hok hml (impl_CloseGraph N es A' k c' W HL.out hk20 h'))
    have HNC := Lib.hid (fun A' c' W h' => nc_con hcs hq (impl_NegativeCycle N es A' k c' W HL.out hk20 h'))
    have hq8 : q ≤ 8 := by rw [hq, hcs]; exact cycR_len _ _
    rw [← hok, ← hcs, ← hq] at hF
    have HF := Lib.hid hF
    have HP0 := Lib.hid (fun W h => by have := impl_PathWeight N es D1 k c1 [] none 0 0 W HL.out hk20 rfl (by omega) h (row_nil _ _); rw [pathW_nil] at this; exact this)
    have HN0 := Lib.hid (fun W h => by have := impl_IsNegativeCycle N es D1 k c1 [] none 0 0 W HL.out hk20 rfl (by omega) h (row_nil _ _); rw [negC_nil] at this; exact this)
    have HP1 := Lib.hid (fun A2 c2 W h h2 => impl_PathWeight N es D1 k c1 cs A2 q c2 W HL.out hk20 hq.symm (by omega) h h2)
    have HN1 := Lib.hid (fun A2 c2 W h h2 => impl_IsNegativeCycle N es D1 k c1 cs A2 q c2 W HL.out hk20 hq.symm (by omega) h h2)
    clear hF ht0 hzs hok hml hcs hq hokg hek hD hk20
    unfold grV at HCG HNC HP0 HN0 HP1 HN1 ⊢
    have oD := Lib.hid ho1
    clear ho1
    have B_w1 : Below w.heap.size w w1 := B_w.trans (bb1.mono B_w.size)
    clear   bb1
    have oD_w1 := oD
    clear oD
    obtain ⟨b3, hb3⟩ : ∃ b, b = w1.heap.size := ⟨_, rfl⟩
    obtain ⟨wa, hwa⟩ : ∃ W, W = w1.alloc (.cells #[.int .i64 N, .slice D1 k c1] 25) := ⟨_, rfl⟩
    have ba : Below w1.heap.size w1 wa := by rw [hwa]; exact (Below.refl _ _).alloc (Nat.le_refl _) _
    have z_wa : wa.heap.size = b3 + 1 := by rw [hwa, hb3]; simp
    have c0_wa : wa.cell? ⟨b3, 0, none⟩ = some (.int .i64 N) := by rw [hwa, hb3]; go_simp
    have c1_wa : wa.cell? ⟨b3, 1, none⟩ = some (.slice D1 k c1) := by rw [hwa, hb3]; go_simp
    have s0_wa : b3 < wa.heap.size := by omega
    go_upto_region 4 with (fail)
    rw [← hwa]
    try rw [← hb3]
    have B_wa : Below w.heap.size w wa := B_w1.trans (ba.mono B_w1.size)
    have oD_wa := Lib.hid (own_below oD_w1.out ba)
    clear  oD_w1 ba
    clear hb3 hwa
    go_wp2_with fail
    refine (HNC.out D1 c1 _ (own_edge oD_wa.out)).mono ?_
    rintro e w2 ⟨A2, c2, rfl, h2, bb2⟩
    have g2 := Lib.hid h2
    clear h2
    have c0_w2 : w2.cell? ⟨b3, 0, none⟩ = some (.int .i64 N) := (bb2.cell (p := ⟨b3, 0, none⟩) (by dsimp only; omega)).trans c0_wa
    have c1_w2 : w2.cell? ⟨b3, 1, none⟩ = some (.slice D1 k c1) := (bb2.cell (p := ⟨b3, 1, none⟩) (by dsimp only; omega)).trans c1_wa
    have s0_w2 : b3 < w2.heap.size := Nat.lt_of_lt_of_le s0_wa bb2.size
    have B_w2 : Below w.heap.size w w2 := B_wa.trans (bb2.mono B_wa.size)
    have oD_w2 := Lib.hid (own_below oD_wa.out bb2)
    clear c0_wa c1_wa s0_wa oD_wa bb2
    have oC_w2 := g2
    clear g2
    go_wp2_with fail
    refine (HCG.out D1 c1 _ (own_edge oD_w2.out)).mono ?_
    rintro e w3 ⟨A3, c3, rfl, h3, bb3⟩
    clear h3
    have c0_w3 : w3.cell? ⟨b3, 0, none⟩ = some (.int .i64 N) := (bb3.cell (p := ⟨b3, 0, none⟩) (by dsimp only; omega)).trans c0_w2
    have c1_w3 : w3.cell? ⟨b3, 1, none⟩ = some (.slice D1 k c1) := (bb3.cell (p := ⟨b3, 1, none⟩) (by dsimp only; omega)).trans c1_w2
    have s0_w3 : b3 < w3.heap.size := Nat.lt_of_lt_of_le s0_w2 bb3.size
    have B_w3 : Below w.heap.size w w3 := B_w2.trans (bb3.mono B_w2.size)
    have oD_w3 := Lib.hid (own_below oD_w2.out bb3)
    have oC_w3 := Lib.hid (own_below oC_w2.out bb3)
    clear c0_w2 c1_w2 s0_w2 oD_w2 oC_w2 bb3
    obtain ⟨b5, hb5⟩ : ∃ b, b = w3.heap.size := ⟨_, rfl⟩
    obtain ⟨wb, hwb⟩ : ∃ W, W = w3.alloc (.cells #[.int .i64 t0, .slice A3 m c3] 29) := ⟨_, rfl⟩
    have ba : Below w3.heap.size w3 wb := by rw [hwb]; exact (Below.refl _ _).alloc (Nat.le_refl _) _
    have u_b5_0 : b3 < b5 := by omega
    have z_wb : wb.heap.size = b5 + 1 := by rw [hwb, hb5]; simp
    have c2_wb : wb.cell? ⟨b5, 0, none⟩ = some (.int .i64 t0) := by rw [hwb, hb5]; go_simp
    have c3_wb : wb.cell? ⟨b5, 1, none⟩ = some (.slice A3 m c3) := by rw [hwb, hb5]; go_simp
    have s1_wb : b5 < wb.heap.size := by omega
    go_upto_region 6 with (fail)
    rw [← hwb]
    try rw [← hb5]
    have c0_wb : wb.cell? ⟨b3, 0, none⟩ = some (.int .i64 N) := (ba.cell (p := ⟨b3, 0, none⟩) (by dsimp only; omega)).trans c0_w3
    have c1_wb : wb.cell? ⟨b3, 1, none⟩ = some (.slice D1 k c1) := (ba.cell (p := ⟨b3, 1, none⟩) (by dsimp only; omega)).trans c1_w3
    have s0_wb : b3 < wb.heap.size := Nat.lt_of_lt_of_le s0_w3 ba.size
    have B_wb : Below w.heap.size w wb := B_w3.trans (ba.mono B_w3.size)
    have oD_wb := Lib.hid (own_below oD_w3.out ba)
    have oC_wb := Lib.hid (own_below oC_w3.out ba)
    clear c0_w3 c1_w3 s0_w3 oD_w3 oC_w3 ba
    clear hb5 hwb
    rcases HF.out with ⟨f1, f2⟩ | ⟨f1, f2, f3, f4⟩
    · subst f1 f2
      go_wp2_with fail
      refine (HP0.out _ (own_edge oD_wb.out)).mono ?_
      rintro e w4 ⟨rfl, bb4⟩
      have c0_w4 : w4.cell? ⟨b3, 0, none⟩ = some (.int .i64 N) := (bb4.cell (p := ⟨b3, 0, none⟩) (by dsimp only; omega)).trans c0_wb
      have c1_w4 : w4.cell? ⟨b3, 1, none⟩ = some (.slice D1 k c1) := (bb4.cell (p := ⟨b3, 1, none⟩) (by dsimp only; omega)).trans c1_wb
      have c2_w4 : w4.cell? ⟨b5, 0, none⟩ = some (.int .i64 t0) := (bb4.cell (p := ⟨b5, 0, none⟩) (by dsimp only; omega)).trans c2_wb
      have c3_w4 : w4.cell? ⟨b5, 1, none⟩ = some (.slice A3 m c3) := (bb4.cell (p := ⟨b5, 1, none⟩) (by dsimp only; omega)).trans c3_wb
      have s0_w4 : b3 < w4.heap.size := Nat.lt_of_lt_of_le s0_wb bb4.size
      have s1_w4 : b5 < w4.heap.size := Nat.lt_of_lt_of_le s1_wb bb4.size
      have B_w4 : Below w.heap.size w w4 := B_wb.trans (bb4.mono B_wb.size)
      have oD_w4 := Lib.hid (own_below oD_wb.out bb4)
      have oC_w4 := Lib.hid (own_below oC_wb.out bb4)
      clear c0_wb c1_wb c2_wb c3_wb s0_wb s1_wb oD_wb oC_wb bb4
      go_wp2_with fail
      refine (HN0.out _ (own_edge oD_w4.out)).mono ?_
      rintro e w5 ⟨rfl, bb5⟩
      have B_w5 : Below w.heap.size w w5 := B_w4.trans (bb5.mono B_w4.size)
      go_wp2_with fail
      go_ret
      exact ⟨rfl, B_w5⟩
    · subst f2
      have hq0 : ((q : Int) == 0) = false := by simp; omega
      rw [f3] at HN1
      go_wp2_with fail
      refine (HN1.out A2 c2 _ (own_edge oD_wb.out) (own_row oC_wb.out)).mono ?_
      rintro e w4 ⟨rfl, bb4⟩
      have c0_w4 : w4.cell? ⟨b3, 0, none⟩ = some (.int .i64 N) := (bb4.cell (p := ⟨b3, 0, none⟩) (by dsimp only; omega)).trans c0_wb
      have c1_w4 : w4.cell? ⟨b3, 1, none⟩ = some (.slice D1 k c1) := (bb4.cell (p := ⟨b3, 1, none⟩) (by dsimp only; omega)).trans c1_wb
      have c2_w4 : w4.cell? ⟨b5, 0, none⟩ = some (.int .i64 t0) := (bb4.cell (p := ⟨b5, 0, none⟩) (by dsimp only; omega)).trans c2_wb
      have c3_w4 : w4.cell? ⟨b5, 1, none⟩ = some (.slice A3 m c3) := (bb4.cell (p := ⟨b5, 1, none⟩) (by dsimp only; omega)).trans c3_wb
      have s0_w4 : b3 < w4.heap.size := Nat.lt_of_lt_of_le s0_wb bb4.size
      have s1_w4 : b5 < w4.heap.size := Nat.lt_of_lt_of_le s1_wb bb4.size
      have B_w4 : Below w.heap.size w w4 := B_wb.trans (bb4.mono B_wb.size)
      have oD_w4 := Lib.hid (own_below oD_wb.out bb4)
      have oC_w4 := Lib.hid (own_below oC_wb.out bb4)
      clear c0_wb c1_wb c2_wb c3_wb s0_wb s1_wb oD_wb oC_wb bb4
      go_wp2_with fail
      refine (HP1.out A2 c2 _ (own_edge oD_w4.out) (own_row oC_w4.out)).mono ?_
      rintro e w5 ⟨rfl, bb5⟩
      have B_w5 : Below w.heap.size w w5 := B_w4.trans (bb5.mono B_w4.size)
      go_wp2_with fail
      go_ret
      exact ⟨rfl, B_w5⟩
  · have hlt : (1048576 : Int) < (n : Int) := by omega
    go_enter Try.func4, Try.ntmps4
    go_wp2_with fail
    go_ret
    exact ⟨rfl, (by repeat (first | exact Below.refl _ _ | refine below_step (by assumption) (by first | omega | (simp; done) | (simp; omega)) ?_ | refine below_drewN ?_ _ | refine Below.drew ?_ | refine Below.setCell ?_ (by first | omega | (simp; done) | (simp; omega)) _ | refine Below.alloc ?_ (by first | omega | (simp; done) | (simp; omega)) _))⟩

/-! ### FnCycles: the row -/

set_option maxRecDepth 100000 in
theorem FnCycles_lifted (os : Os) (started : os.Started) (H : Type) (enc : TypeId × Value → H) :
    ReturnsInHanded {} Try.checked os 4 .any (Rows.fnCyclesSpec.pre6 enc Try.prog Try.f4 Rows.fnCyclesRow.domain false) (Rows.fnCyclesSpec.post enc Try.prog Try.f4 false true false false) := by
  refine returnsInHanded_of_change (C := Try.checked) (by kernel_rfl) started (by kernel_rfl) Try.func4
    (ChangeSpec.witness6 (enc := enc) (C := Try.checked) false ⟨#[], #[.slice none 0 0], []⟩ 8 (by kernel_rfl) (by kernel_rfl) (by kernel_rfl) (by kernel_rfl)) ?_
  intro W base args ds gs before hval0 hW hcnd _
  have hval : ∀ (j : Nat) t v, Try.f4.params[j]? = some t → args[j]? = some v → Value.okWide Try.prog W .any base t v := hval0
  have hW2 := hW
  obtain ⟨p, q, hA0, hV, hpq, hfz, hnd⟩ := hW2
  have hA : DataW.TrodAll enc Try.prog W 0 (fun _ => true) true Try.f4.params.toList args.toList ds p := hA0
  rw [Try.params4] at hA hval
  obtain ⟨v0, d0, hargs, hds, h0⟩ := trodAll_one hA
  obtain ⟨hgs, hq⟩ := trodVars_none hV
  subst hargs
  subst hds
  subst hgs
  obtain ⟨A0, n0, c0, rfl⟩ := okWide_slice Try.underlying22 (hval 0 22 v0 rfl rfl)
  have h0b := h0
  obtain ⟨fuel, hf⟩ := h0b
  obtain ⟨hm, hby⟩ := bytes_in Try.underlying22 Try.underlying5 cells_u8 hf
  refine (FnCycles_walk A0 n0 c0 W hby).mono fun e W2 ⟨he, hb⟩ => ?_
  subst he
  exact ⟨_, rfl, law_post (by kernel_rfl) (by rw [Try.params4]; decide +kernel) (by kernel_rfl) Try.underlying4 rfl ⟨rfl, rfl, rfl⟩ hW hb⟩

theorem FnCycles_holds : Rows.FnCyclesSaid :=
  OpenClaim.holds_of_wide 4 Try.f4 rfl rfl rfl rfl rfl rfl rfl ⟨rfl, rfl, rfl, rfl, rfl⟩ rfl rfl rfl rfl rfl (by kernel_rfl) Try.func4 (by kernel_rfl)
    (of_decide_eq_true (by kernel_rfl)) (by unfold Func.isWrapper; first | (rw [if_pos (by decide +kernel)]; kernel_rfl) | (rw [if_neg (by decide +kernel)]; exact ⟨rfl, rfl⟩))
    (fun os started H enc _ => FnCycles_lifted os started H enc)

end Go.Proofs.Ytdjaiijgdflopaa
