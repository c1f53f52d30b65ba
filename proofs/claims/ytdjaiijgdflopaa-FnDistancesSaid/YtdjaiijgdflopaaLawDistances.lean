/-
  laws.FnDistances HOLDS: whatever the bytes that the graph is drawn of: no edge is shorter than the distance between its ends, the table is valid and closed, the distances from the first node exist, and there is no negative cycle; or there is one. The bytes read as they did. No condition.
-/
import Derived.Test.YtdjaiijgdflopaaRows
import Derived.Test.YtdjaiijgdflopaaFrame
import Derived.Test.YtdjaiijgdflopaaGmB
import Derived.Test.YtdjaiijgdflopaaCgA
import Derived.Test.YtdjaiijgdflopaaGrZ
import Derived.Test.YtdjaiijgdflopaaTbD
import Derived.Test.YtdjaiijgdflopaaQuC
import Derived.Deep.RegionHeld3
import Derived.Deep.CutRange
import Derived.ProofKit
import Derived.Lib.SmallJoins
namespace Go.Proofs.Ytdjaiijgdflopaa
open Go.RowKit Go.ChangeShapes Go.WideShapes Go.ChangeAt Go.WideMaps Go.WideElems
set_option linter.unusedVariables false
set_option linter.unusedSimpArgs false
theorem cells_u8 : Try.prog.cellsOf 5 = 1 := by kernel_rfl

/-- A slice of bytes that comes in, nil or not: its length, and that its cells hold bytes, below whatever block the call makes. -/
theorem bytes_in {H : Type} {enc : TypeId × Value → H} {P : Program} {W : World} {t e : TypeId} {fuel n c : Nat} {A : Option Addr} {x : DataW H × List MemPlace}
    (ht : P.underlying t = some (.slice e)) (he : P.underlying e = some (.int .u8)) (hc : P.cellsOf e = 1)
    (hf : DataW.trod enc P W 0 (fun _ => true) true fuel t (Value.slice A n c).cells.toList = some x) :
    n ≤ maxLen ∧ Bytes W W.heap.size A n := by
  rcases open_ints ht he hc hf with ⟨hcs, _⟩ | ⟨a, len, cap, zs, hcs, _, hl, hm, hz, _, hcell, hws⟩
  · simp [Value.cells] at hcs
    obtain ⟨rfl, rfl, rfl⟩ := hcs
    exact ⟨Nat.zero_le _, fun h => by omega⟩
  · simp [Value.cells] at hcs
    obtain ⟨rfl, rfl, rfl⟩ := hcs
    have hlen : zs.length = c := by simpa using hz
    refine ⟨by omega, fun hp => ?_⟩
    have h0 := hcell 0 (by omega)
    obtain ⟨b, off, spot⟩ := a
    have hspot : spot = none := by simpa [Addr.add] using World.cell?_spot h0
    subst hspot
    have hb : b < W.heap.size := by
      rcases Nat.lt_or_ge b W.heap.size with hlt | hge
      · exact hlt
      · have : W.heap[b]? = none := Array.getElem?_eq_none hge
        simp [Addr.add, World.cell?, this] at h0
    refine ⟨b, off, rfl, hb, by omega, fun j hj => ?_⟩
    have hw := hws (zs.getD j 0) (by
      rw [List.getD_eq_getElem?_getD, List.getElem?_eq_getElem (by omega)]
      exact List.getElem_mem _)
    have hb2 : 0 ≤ zs.getD j 0 ∧ zs.getD j 0 ≤ 255 := by
      simpa [Lit.wf, IntKind.min, IntKind.max, IntKind.signed, IntKind.bits] using hw
    exact ⟨zs.getD j 0, hb2.1, hb2.2, by rw [← Go.WideShapes.add_plain]; exact hcell j (by omega)⟩

theorem CgEnd.con {n : Int} {es : List GE} {w : World} {f : FuncId} {args : Array Value} {t0 : Int} {zs : List Int} {ok : Bool} {m : Nat} (h1 : t0 = (closeR n es).1) (h2 : zs = (closeR n es).2.1) (h3 : ok = (closeR n es).2.2) (hm : m = zs.length) (h : Calls Try.prog f args w fun e w' => CgEnd n es w e w') :
    Calls Try.prog f args w fun e w' => ∃ B cb, e = .returned (.tuple #[.agg #[.int .i64 t0, .slice B m cb], .bool ok]) ∧ w'.ownsRow w.heap.size 3 1 (.slice B m cb) m (zs.map intV) ∧ Below w.heap.size w w' :=
  h.mono fun e w' ⟨A, k, c, e1, e2, e3, e4⟩ => by
    subst h1 h2 h3 hm e2
    exact ⟨A, c, e1, e3, e4⟩
theorem own_edge {W : World} {B t k c : Nat} {A : Option Addr} {es : List GE} (h : W.ownsRow B t 3 (.slice A k c) k (cellsE es)) : EdgeAt W A es := by
  obtain ⟨_, _, hv, _, hE⟩ := ownE_form h
  injection hv with hv
  rw [hv]; exact hE
theorem nc_con {n : Int} {es : List GE} {w : World} {f : FuncId} {args : Array Value} {cs : List Int} {q : Nat} (h1 : cs = cycR n es) (h2 : q = cs.length) (h : Calls Try.prog f args w fun e w' => ∃ B m cb, e = .returned (.slice B m cb) ∧ m = (cycR n es).length ∧ w'.ownsRow w.heap.size 3 1 (.slice B m cb) m ((cycR n es).map intV) ∧ Below w.heap.size w w') :
    Calls Try.prog f args w fun e w' => ∃ B cb, e = .returned (.slice B q cb) ∧ w'.ownsRow w.heap.size 3 1 (.slice B q cb) q (cs.map intV) ∧ Below w.heap.size w w' :=
  h.mono fun e w' ⟨A, k, c, e1, e2, e3, e4⟩ => by
    subst h1 h2 e2
    exact ⟨A, c, e1, e3, e4⟩
theorem cycle_facts {N : Nat} {es : List GE} (hok : okG N es = true) :
    ((cycR N es).length = 0 ∧ (closeR N es).2.2 = true) ∨ (0 < (cycR N es).length ∧ (closeR N es).2.2 = false ∧ negC N es (cycR N es) = true ∧ pathW N es (cycR N es) < 0) := by
  by_cases h : closeOk N es = true
  · exact .inl ⟨by rw [cycR_nil ((close_iff hok).1 h)]; rfl, by rw [closeR_yes hok h]⟩
  · have h2 : (endC N es).2 ≠ -1 := fun e => h ((close_iff hok).2 e)
    have h3 := cyc_isneg hok h2
    refine .inr ⟨?_, by rw [closeR_no (fun hh => h (by simpa using hh.2))], h3, cyc_path_neg hok h2⟩
    unfold negC at h3
    simp only [Bool.and_eq_true, decide_eq_true_eq] at h3
    exact h3.1.1.2
theorem pathW_nil (n : Int) (es : List GE) : pathW n es [] = 0 := by unfold pathW; split <;> rfl
theorem negC_nil (n : Int) (es : List GE) : negC n es [] = false := by simp [negC]
theorem row_nil (W : World) (A : Option Addr) : RowAt W A [] := fun h => by simp at h

theorem dist_edge {N : Nat} {es : List GE} (hok : okG N es = true) (ht : Tiny es) (h : closeOk N es = true) {j : Nat} {e : GE} (he : es[j]? = some e) : cellR N (closeC N es) e.u e.v ≤ e.c := by
  have hr := okG_edge hok he
  unfold cellR
  rw [if_pos ⟨close_okT hok ht h, hr.1, hr.2.1⟩, Int.toNat_natCast]
  exact cell_min hok ht h (by omega) (by omega) (Wk.one he)
theorem short_facts {N : Nat} {es : List GE} (hok : okG N es = true) (h : closeOk N es = true) (hN : 1 ≤ N) :
    (shortR N es 0).2 = true ∧ (shortR N es 0).1.length = N ∧ (shortR N es 0).1[0]? = some 0 := by
  have hc : (roundsE es (srcS 0) N).2 = -1 := by
    unfold closeOk at h
    rw [List.all_eq_true] at h
    exact of_decide_eq_true (h 0 (by simp; omega))
  have hp : (okG (N : Int) es && decide ((0 : Int) ≤ 0 ∧ (0 : Int) < (N : Int))) = true ∧ (roundsE es (srcS (0 : Int).toNat) (N : Int).toNat).2 = -1 := by
    refine ⟨?_, by simpa using hc⟩
    rw [hok, Bool.true_and]
    exact decide_eq_true (by omega)
  have hs : shortR N es 0 = (distZ (roundsE es (srcS 0) N).1 N, true) := by
    unfold shortR
    rw [if_pos hp]
    simp
  have hf := closeOk_fin hok h (i := 0) (by omega)
  rw [hs]
  refine ⟨rfl, distZ_length _ _, ?_⟩
  have h0 : (distZ (roundsE es (srcS 0) N).1 N)[0]? = some (distE (roundsE es (srcS 0) N).1 0) := by
    unfold distZ
    rw [List.getElem?_map, List.getElem?_range (by omega)]
    rfl
  dsimp only
  rw [h0]
  unfold distE
  rw [if_pos hf.at_, hf.zero]; rfl
theorem dist_facts {N : Nat} {es : List GE} (hok : okG N es = true) (ht : Tiny es) (hN : 1 ≤ N) :
    (closeR N es).2.2 = false ∧ 0 < (cycR N es).length ∨ ((closeR N es).2.2 = true ∧ (cycR N es).length = 0 ∧ (closeR N es).1 = (N : Int) ∧ (∀ (j : Nat) (e : GE), es[j]? = some e → cellR N (closeR N es).2.1 e.u e.v ≤ e.c) ∧
      (shortR N es 0).2 = true ∧ (shortR N es 0).1.length = N ∧ (shortR N es 0).1[0]? = some 0 ∧ closedR N (closeR N es).2.1 = true ∧ okT N (closeR N es).2.1 = true ∧ (closeR N es).2.1.length ≤ 64) := by
  rcases cycle_facts hok with ⟨f1, f2⟩ | ⟨f1, f2, _, _⟩
  · have h : closeOk N es = true := by
      by_cases h : closeOk N es = true
      · exact h
      · rw [closeR_no (fun hh => h (by simpa using hh.2))] at f2
        simp at f2
    rw [closeR_yes hok h]
    obtain ⟨s1, s2, s3⟩ := short_facts hok h hN
    refine .inr ⟨rfl, f1, rfl, fun j e he => dist_edge hok ht h he, s1, s2, s3, close_closedR hok ht h, close_okT hok ht h, ?_⟩
    dsimp only
    rw [close_length]
    have := (okG_rng hok).2.1
    exact sq_le (by omega)
  · exact .inl ⟨f2, f1⟩
theorem sf_con {n : Int} {es : List GE} {w : World} {f : FuncId} {args : Array Value} {z : Int} {cs : List Int} {ok : Bool} {q : Nat} (h1 : cs = (shortR n es z).1) (h0 : (shortR n es z).2 = ok) (h2 : q = cs.length) (h : Calls Try.prog f args w fun e w' => ∃ B m cb, e = .returned (.tuple #[.slice B m cb, .bool (shortR n es z).2]) ∧ m = (shortR n es z).1.length ∧ w'.ownsRow w.heap.size 3 1 (.slice B m cb) m ((shortR n es z).1.map intV) ∧ Below w.heap.size w w') :
    Calls Try.prog f args w fun e w' => ∃ B cb, e = .returned (.tuple #[.slice B q cb, .bool ok]) ∧ w'.ownsRow w.heap.size 3 1 (.slice B q cb) q (cs.map intV) ∧ Below w.heap.size w w' :=
  h.mono fun e w' ⟨A, k, c, e1, e2, e3, e4⟩ => by
    subst h1 h2 e2 h0
    exact ⟨A, c, e1, e3, e4⟩
theorem row_first {W : World} {A : Option Addr} {cs : List Int} (h : RowAt W A (cs.map intV)) (h0 : cs[0]? = some 0) : ∃ g o, A = some ⟨g, o, none⟩ ∧ g < W.heap.size ∧ W.cell? ⟨g, o, none⟩ = some (.int .i64 0) := by
  have hl : 0 < cs.length := by
    cases cs with
    | nil => simp at h0
    | cons => simp
  obtain ⟨g, o, hA, hg, hc⟩ := h (by simpa using hl)
  refine ⟨g, o, hA, hg, ?_⟩
  have := hc 0 (by simpa using hl)
  rw [List.getElem?_eq_getElem hl] at h0
  injection h0 with h0
  simpa [h0, intV] using this

set_option maxRecDepth 100000 in
set_option maxHeartbeats 16000000 in
theorem FnDistances_walk (A : Option Addr) (n c : Nat) (w : World) (hby : Bytes w w.heap.size A n) :
    Calls Try.prog 3 #[.slice A n c] w fun e w' => e = .returned (.bool true) ∧ Below w.heap.size w w' := by
  by_cases h : n ≤ 1048576
  · have HMG := Lib.hid (MakeGraph_any A n c w h hby)
    have hlt : ¬ ((1048576 : Int) < (n : Int)) := by omega
    have B_w : Below w.heap.size w w := Below.refl _ _
    clear hby
    go_enter Try.func3, Try.ntmps3
    go_wp2_with fail
    refine HMG.out.mono ?_
    rintro e w1 ⟨N, es, D1, k, c1, rfl, hN1, hN5, hek, hk9, hD, ho1, bb1⟩
    have hokg : okG N es = true := dr_okG hN1 hN5 (by omega) hD
    have HOK := Lib.hid hokg
    have HT := Lib.hid (dr_tiny hD)
    have HL := Lib.hid hek
    have hF := cycle_facts hokg
    obtain ⟨t0, ht0⟩ : ∃ t, t = (closeR N es).1 := ⟨_, rfl⟩
    obtain ⟨zs, hzs⟩ : ∃ t, t = (closeR N es).2.1 := ⟨_, rfl⟩
    obtain ⟨ok, hok⟩ : ∃ t, t = (closeR N es).2.2 := ⟨_, rfl⟩
    obtain ⟨m, hml⟩ : ∃ t, t = zs.length := ⟨_, rfl⟩
    obtain ⟨cs, hcs⟩ : ∃ t, t = cycR N es := ⟨_, rfl⟩
    obtain ⟨q, hq⟩ : ∃ t, t = cs.length := ⟨_, rfl⟩
    have hk20 : k ≤ 1048576 := by omega
    have HCG := Lib.hid (fun A' c' W h' => CgEnd.con ht0 hzs hok hml (impl_CloseGraph N es A' k c' W HL.out hk20 h'))
    have HNC := Lib.hid (fun A' c' W h' => nc_con hcs hq (impl_NegativeCycle N es A' k c' W HL.out hk20 h'))
    have hq8 : q ≤ 8 := by rw [hq, hcs]; exact cycR_len _ _
    have hF2 := dist_facts hokg HT.out hN1
    rw [← hok, ← hcs, ← hq, ← ht0, ← hzs, ← hml] at hF2
    have HF := Lib.hid hF2
    obtain ⟨ds, hds⟩ : ∃ t, t = (shortR N es 0).1 := ⟨_, rfl⟩
    have HSF := Lib.hid (fun A2 c2 W hh (h2 : (shortR N es 0).2 = true) (hl : N = ds.length) => sf_con (q := N) (ok := true) hds h2 hl (impl_ShortestFrom N es A2 k c2 0 W HL.out hk20 hh))
    rw [← hds] at hF2
    have HDS := Lib.hid hF2
    have HGO := Lib.hid (fun A2 c2 W hh => by have := impl_GraphOk N es A2 k c2 W HL.out hk20 hh; rw [hokg] at this; exact this)
    have HCE := Lib.hid (fun A2 c2 x y W hm2 hh => impl_CellOf N zs A2 m c2 x y W hml.symm hm2 hh)
    have HIC := Lib.hid (fun A2 c2 W hm2 hh => impl_IsClosed N zs A2 m c2 W hml.symm hm2 hh)
    have HTB := Lib.hid (fun A2 c2 W hm2 hh => impl_TableOk N zs A2 m c2 W hml.symm hm2 hh)
    clear hF hF2 HF hds ht0 hzs hok hml hcs hq hokg hek hD hk20
    unfold grV at HCG HNC HGO HSF HCE HIC HTB ⊢
    have oD := Lib.hid ho1
    clear ho1
    have B_w1 : Below w.heap.size w w1 := B_w.trans (bb1.mono B_w.size)
    clear   bb1
    have oD_w1 := oD
    clear oD
    obtain ⟨b3, hb3⟩ : ∃ b, b = w1.heap.size := ⟨_, rfl⟩
    obtain ⟨wa, hwa⟩ : ∃ W, W = w1.alloc (.cells #[.int .i64 N, .slice D1 k c1] 25) := ⟨_, rfl⟩
    have ba : Below w1.heap.size w1 wa := by rw [hwa]; exact (Below.refl _ _).alloc (Nat.le_refl _) _
    have z_wa : wa.heap.size = b3 + 1 := by rw [hwa, hb3]; simp
    have c0_wa : wa.cell? ⟨b3, 0, none⟩ = some (.int .i64 N) := by rw [hwa, hb3]; go_simp
    have c1_wa : wa.cell? ⟨b3, 1, none⟩ = some (.slice D1 k c1) := by rw [hwa, hb3]; go_simp
    have s0_wa : b3 < wa.heap.size := by omega
    go_upto_region 4 with (fail)
    rw [← hwa]
    try rw [← hb3]
    have B_wa : Below w.heap.size w wa := B_w1.trans (ba.mono B_w1.size)
    have oD_wa := Lib.hid (own_below oD_w1.out ba)
    clear  oD_w1 ba
    clear hb3 hwa
    go_wp2_with fail
    refine (HCG.out D1 c1 _ (own_edge oD_wa.out)).mono ?_
    rintro e w2 ⟨A2, c2, rfl, h2, bb2⟩
    have g2 := Lib.hid h2
    clear h2
    have c0_w2 : w2.cell? ⟨b3, 0, none⟩ = some (.int .i64 N) := (bb2.cell (p := ⟨b3, 0, none⟩) (by dsimp only; omega)).trans c0_wa
    have c1_w2 : w2.cell? ⟨b3, 1, none⟩ = some (.slice D1 k c1) := (bb2.cell (p := ⟨b3, 1, none⟩) (by dsimp only; omega)).trans c1_wa
    have s0_w2 : b3 < w2.heap.size := Nat.lt_of_lt_of_le s0_wa bb2.size
    have B_w2 : Below w.heap.size w w2 := B_wa.trans (bb2.mono B_wa.size)
    have oD_w2 := Lib.hid (own_below oD_wa.out bb2)
    clear c0_wa c1_wa s0_wa oD_wa bb2
    have oC_w2 := g2
    clear g2
    obtain ⟨b4, hb4⟩ : ∃ b, b = w2.heap.size := ⟨_, rfl⟩
    obtain ⟨wb, hwb⟩ : ∃ W, W = w2.alloc (.cells #[.int .i64 t0, .slice A2 m c2] 29) := ⟨_, rfl⟩
    have ba : Below w2.heap.size w2 wb := by rw [hwb]; exact (Below.refl _ _).alloc (Nat.le_refl _) _
    have u_b4_0 : b3 < b4 := by omega
    have z_wb : wb.heap.size = b4 + 1 := by rw [hwb, hb4]; simp
    have c2_wb : wb.cell? ⟨b4, 0, none⟩ = some (.int .i64 t0) := by rw [hwb, hb4]; go_simp
    have c3_wb : wb.cell? ⟨b4, 1, none⟩ = some (.slice A2 m c2) := by rw [hwb, hb4]; go_simp
    have s1_wb : b4 < wb.heap.size := by omega
    go_upto_region 5 with (fail)
    rw [← hwb]
    try rw [← hb4]
    have c0_wb : wb.cell? ⟨b3, 0, none⟩ = some (.int .i64 N) := (ba.cell (p := ⟨b3, 0, none⟩) (by dsimp only; omega)).trans c0_w2
    have c1_wb : wb.cell? ⟨b3, 1, none⟩ = some (.slice D1 k c1) := (ba.cell (p := ⟨b3, 1, none⟩) (by dsimp only; omega)).trans c1_w2
    have s0_wb : b3 < wb.heap.size := Nat.lt_of_lt_of_le s0_w2 ba.size
    have B_wb : Below w.heap.size w wb := B_w2.trans (ba.mono B_w2.size)
    have oD_wb := Lib.hid (own_below oD_w2.out ba)
    have oC_wb := Lib.hid (own_below oC_w2.out ba)
    clear c0_w2 c1_w2 s0_w2 oD_w2 oC_w2 ba
    clear hb4 hwb
    rcases HDS.out with ⟨f1, f2⟩ | ⟨f1, f2, f3, f4, f5, f6, f7, f8, f9, f10⟩
    · subst f1
      have hq1 : (0 : Int) < (q : Int) := by omega
      go_wp2_with fail
      refine (HNC.out D1 c1 _ (own_edge oD_wb.out)).mono ?_
      rintro e w3 ⟨A3, c3, rfl, h3, bb3⟩
      clear h3
      have c0_w3 : w3.cell? ⟨b3, 0, none⟩ = some (.int .i64 N) := (bb3.cell (p := ⟨b3, 0, none⟩) (by dsimp only; omega)).trans c0_wb
      have c1_w3 : w3.cell? ⟨b3, 1, none⟩ = some (.slice D1 k c1) := (bb3.cell (p := ⟨b3, 1, none⟩) (by dsimp only; omega)).trans c1_wb
      have c2_w3 : w3.cell? ⟨b4, 0, none⟩ = some (.int .i64 t0) := (bb3.cell (p := ⟨b4, 0, none⟩) (by dsimp only; omega)).trans c2_wb
      have c3_w3 : w3.cell? ⟨b4, 1, none⟩ = some (.slice A2 m c2) := (bb3.cell (p := ⟨b4, 1, none⟩) (by dsimp only; omega)).trans c3_wb
      have s0_w3 : b3 < w3.heap.size := Nat.lt_of_lt_of_le s0_wb bb3.size
      have s1_w3 : b4 < w3.heap.size := Nat.lt_of_lt_of_le s1_wb bb3.size
      have B_w3 : Below w.heap.size w w3 := B_wb.trans (bb3.mono B_wb.size)
      have oD_w3 := Lib.hid (own_below oD_wb.out bb3)
      have oC_w3 := Lib.hid (own_below oC_wb.out bb3)
      clear c0_wb c1_wb c2_wb c3_wb s0_wb s1_wb oD_wb oC_wb bb3
      go_wp2_with fail
      refine (HGO.out D1 c1 _ (own_edge oD_w3.out)).mono ?_
      rintro e w4 ⟨rfl, bb4⟩
      have B_w4 : Below w.heap.size w w4 := B_w3.trans (bb4.mono B_w3.size)
      go_wp2_with fail
      go_ret
      exact ⟨rfl, B_w4⟩
    · subst f1 f2 f3
      have F4 := Lib.hid f4
      have HSF2 := Lib.hid (fun A2 c2 W hh => HSF.out A2 c2 W hh f5 f6.symm)
      have F7 := Lib.hid f7
      have m20 : m ≤ 1048576 := by omega
      have hic := fun A2 c2 W hh => HIC.out A2 c2 W m20 hh
      rw [f8] at hic
      have htb := fun A2 c2 W hh => HTB.out A2 c2 W m20 hh
      rw [f9] at htb
      have HIC2 := Lib.hid hic
      have HTB2 := Lib.hid htb
      have HCE2 := Lib.hid (fun A2 c2 x y W hh => HCE.out A2 c2 x y W m20 hh)
      clear f4 f5 f6 f7 f8 f9 hic htb HSF HIC HTB HCE HDS
      go_wp2_with fail
      go_loopw [33] (fun ii wr => ∃ j : Nat, ii = .int .i64 j ∧ j ≤ k ∧ Below wb.heap.size wb wr) (fun ii _ => k - (intOf ii).toNat)
      case atStart => exact ⟨0, rfl, by omega, Below.refl _ _⟩
      case round =>
        obtain ⟨j, rfl, hj, hbr⟩ := hrel
        have c0_wr : wr.cell? ⟨b3, 0, none⟩ = some (.int .i64 N) := (hbr.cell (p := ⟨b3, 0, none⟩) (by dsimp only; omega)).trans c0_wb
        have c1_wr : wr.cell? ⟨b3, 1, none⟩ = some (.slice D1 k c1) := (hbr.cell (p := ⟨b3, 1, none⟩) (by dsimp only; omega)).trans c1_wb
        have c2_wr : wr.cell? ⟨b4, 0, none⟩ = some (.int .i64 N) := (hbr.cell (p := ⟨b4, 0, none⟩) (by dsimp only; omega)).trans c2_wb
        have c3_wr : wr.cell? ⟨b4, 1, none⟩ = some (.slice A2 m c2) := (hbr.cell (p := ⟨b4, 1, none⟩) (by dsimp only; omega)).trans c3_wb
        have s0_wr : b3 < wr.heap.size := Nat.lt_of_lt_of_le s0_wb hbr.size
        have s1_wr : b4 < wr.heap.size := Nat.lt_of_lt_of_le s1_wb hbr.size
        have oD_wr := Lib.hid (own_below oD_wb.out hbr)
        have oC_wr := Lib.hid (own_below oC_wb.out hbr)
        have B_wr : Below w.heap.size w wr := B_wb.trans (hbr.mono B_wb.size)
        clear c0_wb c1_wb c2_wb c3_wb s0_wb s1_wb oD_wb oC_wb B_wb
        by_cases hlt : j < k
        · have hl := HL.out
          obtain ⟨gg, o, hDA, hg, hc⟩ := (own_edge oD_wr.out) (by omega)
          have hc1 := hc j (by omega)
          obtain ⟨e, he⟩ : ∃ e, e = es[j]'(by omega) := ⟨_, rfl⟩
          rw [← he] at hc1
          have hce := F4.out j e (by rw [he]; exact List.getElem?_eq_getElem _)
          obtain ⟨k0, k1, k2⟩ := hc1
          subst hDA
          obtain ⟨u, v, cc⟩ := e
          dsimp only at k0 k1 k2 hce
          clear hc he hl
          obtain ⟨x, hx⟩ : ∃ x, x = cellR N zs u v := ⟨_, rfl⟩
          have hcx := HCE2.out A2 c2 u v
          rw [← hx] at hcx hce
          have HCX := Lib.hid hcx
          have hxc : ¬ (cc < x) := by omega
          clear hx hcx hce
          obtain ⟨be, hbe⟩ : ∃ b, b = wr.heap.size := ⟨_, rfl⟩
          obtain ⟨wz, hwz⟩ : ∃ W, W = wr.alloc (.cells #[.int .i64 u, .int .i64 v, .int .i64 cc] 35) := ⟨_, rfl⟩
          have ba : Below wr.heap.size wr wz := by rw [hwz]; exact (Below.refl _ _).alloc (Nat.le_refl _) _
          have u_be_0 : b3 < be := by omega
          have u_be_1 : b4 < be := by omega
          have z_wz : wz.heap.size = be + 1 := by rw [hwz, hbe]; simp
          have hbrz : Below wb.heap.size wb wz := hbr.trans (ba.mono hbr.size)
          have c4_wz : wz.cell? ⟨be, 0, none⟩ = some (.int .i64 u) := by rw [hwz, hbe]; go_simp
          have c5_wz : wz.cell? ⟨be, 1, none⟩ = some (.int .i64 v) := by rw [hwz, hbe]; go_simp
          have c6_wz : wz.cell? ⟨be, 2, none⟩ = some (.int .i64 cc) := by rw [hwz, hbe]; go_simp
          have s2_wz : be < wz.heap.size := by omega
          go_upto_region 10 with (fail)
          rw [← hwz]
          try rw [← hbe]
          have c0_wz : wz.cell? ⟨b3, 0, none⟩ = some (.int .i64 N) := (ba.cell (p := ⟨b3, 0, none⟩) (by dsimp only; omega)).trans c0_wr
          have c1_wz : wz.cell? ⟨b3, 1, none⟩ = some (.slice (some ⟨gg, o, none⟩) k c1) := (ba.cell (p := ⟨b3, 1, none⟩) (by dsimp only; omega)).trans c1_wr
          have c2_wz : wz.cell? ⟨b4, 0, none⟩ = some (.int .i64 N) := (ba.cell (p := ⟨b4, 0, none⟩) (by dsimp only; omega)).trans c2_wr
          have c3_wz : wz.cell? ⟨b4, 1, none⟩ = some (.slice A2 m c2) := (ba.cell (p := ⟨b4, 1, none⟩) (by dsimp only; omega)).trans c3_wr
          have s0_wz : b3 < wz.heap.size := Nat.lt_of_lt_of_le s0_wr ba.size
          have s1_wz : b4 < wz.heap.size := Nat.lt_of_lt_of_le s1_wr ba.size
          have B_wz : Below w.heap.size w wz := B_wr.trans (ba.mono B_wr.size)
          have oD_wz := Lib.hid (own_below oD_wr.out ba)
          have oC_wz := Lib.hid (own_below oC_wr.out ba)
          clear c0_wr c1_wr c2_wr c3_wr s0_wr s1_wr oD_wr oC_wr ba
          clear hbe hwz
          obtain ⟨C, hC⟩ : ∃ C : World → Prop, C = fun W => Below wz.heap.size wz W := ⟨_, rfl⟩
          have qb : ∀ W, C W → Below wz.heap.size wz W := fun W h => by rw [hC] at h; exact h
          have qc : ∀ W, Below wz.heap.size wz W → C W := fun W h => by rw [hC]; exact h
          have hC0 : C (World.drew wz) := qc _ (Below.refl _ _).drew
          have q0 : ∀ zc : WC C, zc.w.cell? ⟨b4, 0, none⟩ = some (.int .i64 N) := fun zc => ((qb _ zc.h).cell (p := ⟨b4, 0, none⟩) (by dsimp only; omega)).trans c2_wz
          have q1 : ∀ zc : WC C, zc.w.cell? ⟨b4, 1, none⟩ = some (.slice A2 m c2) := fun zc => ((qb _ zc.h).cell (p := ⟨b4, 1, none⟩) (by dsimp only; omega)).trans c3_wz
          have q2 : ∀ zc : WC C, zc.w.cell? ⟨be, 0, none⟩ = some (.int .i64 u) := fun zc => ((qb _ zc.h).cell (p := ⟨be, 0, none⟩) (by dsimp only; omega)).trans c4_wz
          have q3 : ∀ zc : WC C, zc.w.cell? ⟨be, 1, none⟩ = some (.int .i64 v) := fun zc => ((qb _ zc.h).cell (p := ⟨be, 1, none⟩) (by dsimp only; omega)).trans c5_wz
          have q4 : ∀ zc : WC C, zc.w.cell? ⟨be, 2, none⟩ = some (.int .i64 cc) := fun zc => ((qb _ zc.h).cell (p := ⟨be, 2, none⟩) (by dsimp only; omega)).trans c6_wz
          have RC := own_row oC_wz.out
          have A0 : Hid (∀ (zc : WC C), Calls Try.prog 17 #[.agg #[.int .i64 N, .slice A2 m c2], .int .i64 u, .int .i64 v] zc.w fun e w2 => e = .returned (.int .i64 x) ∧ ∃ y : WC C, w2 = y.w) := Lib.hid (fun zc => wc_calls ((HCX.out zc.w (RowAt.below RC (qb _ zc.h))).mono fun e w2 k => ⟨k.1, qc _ ((qb _ zc.h).trans (k.2.mono (qb _ zc.h).size))⟩))
          have nwc : Nonempty (WC C) := ⟨⟨_, hC0⟩⟩
          clear hC
          refine region_wc C (by kernel_rfl) (by kernel_rfl) hC0 ?_
          repeat (go_big_quiet_step (first | (go_at_call 17; exact A0.out _)))
          refine wpQuiet_nil ?_
          rintro _ ⟨xq, rfl⟩
          have bq := qb _ xq.h
          obtain ⟨wq, hwq⟩ : ∃ wq, wq = xq.w := ⟨_, rfl⟩
          rw [← hwq] at bq ⊢
          clear hwq xq nwc hC0 qb qc q0 q1 q2 q3 q4 A0 C RC
          have hbr7 : Below wb.heap.size wb wq := hbrz.trans (bq.mono hbrz.size)
          go_wp2_with fail
          go_roundw
          case rel => exact ⟨j + 1, by go_num, by omega, hbr7⟩
          case measure => simp [intOf]; omega
        · have hjk : ¬ ((j : Int) < (k : Int)) := by omega
          clear hbr
          go_wp2_with fail
          refine (HSF2.out D1 c1 _ (own_edge oD_wr.out)).mono ?_
          rintro e w8 ⟨A8, c8, rfl, h8, b8⟩
          have g8 := Lib.hid h8
          clear h8
          have c0_w8 : w8.cell? ⟨b3, 0, none⟩ = some (.int .i64 N) := (b8.cell (p := ⟨b3, 0, none⟩) (by dsimp only; omega)).trans c0_wr
          have c1_w8 : w8.cell? ⟨b3, 1, none⟩ = some (.slice D1 k c1) := (b8.cell (p := ⟨b3, 1, none⟩) (by dsimp only; omega)).trans c1_wr
          have c2_w8 : w8.cell? ⟨b4, 0, none⟩ = some (.int .i64 N) := (b8.cell (p := ⟨b4, 0, none⟩) (by dsimp only; omega)).trans c2_wr
          have c3_w8 : w8.cell? ⟨b4, 1, none⟩ = some (.slice A2 m c2) := (b8.cell (p := ⟨b4, 1, none⟩) (by dsimp only; omega)).trans c3_wr
          have s0_w8 : b3 < w8.heap.size := Nat.lt_of_lt_of_le s0_wr b8.size
          have s1_w8 : b4 < w8.heap.size := Nat.lt_of_lt_of_le s1_wr b8.size
          have B_w8 : Below w.heap.size w w8 := B_wr.trans (b8.mono B_wr.size)
          have oD_w8 := Lib.hid (own_below oD_wr.out b8)
          have oC_w8 := Lib.hid (own_below oC_wr.out b8)
          clear c0_wr c1_wr c2_wr c3_wr s0_wr s1_wr oD_wr oC_wr b8
          have oR_w8 := g8
          clear g8
          go_wp2_with fail
          refine (HIC2.out A2 c2 _ (own_row oC_w8.out)).mono ?_
          rintro e w9 ⟨rfl, b9⟩
          have c0_w9 : w9.cell? ⟨b3, 0, none⟩ = some (.int .i64 N) := (b9.cell (p := ⟨b3, 0, none⟩) (by dsimp only; omega)).trans c0_w8
          have c1_w9 : w9.cell? ⟨b3, 1, none⟩ = some (.slice D1 k c1) := (b9.cell (p := ⟨b3, 1, none⟩) (by dsimp only; omega)).trans c1_w8
          have c2_w9 : w9.cell? ⟨b4, 0, none⟩ = some (.int .i64 N) := (b9.cell (p := ⟨b4, 0, none⟩) (by dsimp only; omega)).trans c2_w8
          have c3_w9 : w9.cell? ⟨b4, 1, none⟩ = some (.slice A2 m c2) := (b9.cell (p := ⟨b4, 1, none⟩) (by dsimp only; omega)).trans c3_w8
          have s0_w9 : b3 < w9.heap.size := Nat.lt_of_lt_of_le s0_w8 b9.size
          have s1_w9 : b4 < w9.heap.size := Nat.lt_of_lt_of_le s1_w8 b9.size
          have B_w9 : Below w.heap.size w w9 := B_w8.trans (b9.mono B_w8.size)
          have oD_w9 := Lib.hid (own_below oD_w8.out b9)
          have oC_w9 := Lib.hid (own_below oC_w8.out b9)
          have oR_w9 := Lib.hid (own_below oR_w8.out b9)
          clear c0_w8 c1_w8 c2_w8 c3_w8 s0_w8 s1_w8 oD_w8 oC_w8 oR_w8 b9
          go_wp2_with fail
          refine (HTB2.out A2 c2 _ (own_row oC_w9.out)).mono ?_
          rintro e w10 ⟨rfl, b10⟩
          have c0_w10 : w10.cell? ⟨b3, 0, none⟩ = some (.int .i64 N) := (b10.cell (p := ⟨b3, 0, none⟩) (by dsimp only; omega)).trans c0_w9
          have c1_w10 : w10.cell? ⟨b3, 1, none⟩ = some (.slice D1 k c1) := (b10.cell (p := ⟨b3, 1, none⟩) (by dsimp only; omega)).trans c1_w9
          have c2_w10 : w10.cell? ⟨b4, 0, none⟩ = some (.int .i64 N) := (b10.cell (p := ⟨b4, 0, none⟩) (by dsimp only; omega)).trans c2_w9
          have c3_w10 : w10.cell? ⟨b4, 1, none⟩ = some (.slice A2 m c2) := (b10.cell (p := ⟨b4, 1, none⟩) (by dsimp only; omega)).trans c3_w9
          have s0_w10 : b3 < w10.heap.size := Nat.lt_of_lt_of_le s0_w9 b10.size
          have s1_w10 : b4 < w10.heap.size := Nat.lt_of_lt_of_le s1_w9 b10.size
          have B_w10 : Below w.heap.size w w10 := B_w9.trans (b10.mono B_w9.size)
          have oD_w10 := Lib.hid (own_below oD_w9.out b10)
          have oC_w10 := Lib.hid (own_below oC_w9.out b10)
          have oR_w10 := Lib.hid (own_below oR_w9.out b10)
          clear c0_w9 c1_w9 c2_w9 c3_w9 s0_w9 s1_w9 oD_w9 oC_w9 oR_w9 b10
          obtain ⟨g1, o1, hA8, hg1, hcz⟩ := row_first (own_row oR_w10.out) F7.out
          subst hA8
          have hN0 : 0 < N := by omega
          go_wp2_with fail
          refine (HNC.out D1 c1 _ (own_edge oD_w10.out)).mono ?_
          rintro e w11 ⟨A11, c11, rfl, h11, b11⟩
          have B_w11 : Below w.heap.size w w11 := B_w10.trans (b11.mono B_w10.size)
          clear h11
          go_wp2_with fail
          go_ret
          exact ⟨rfl, B_w11⟩
  · have hlt : (1048576 : Int) < (n : Int) := by omega
    go_enter Try.func3, Try.ntmps3
    go_wp2_with fail
    go_ret
    exact ⟨rfl, (by repeat (first | exact Below.refl _ _ | refine below_step (by assumption) (by first | omega | (simp; done) | (simp; omega)) ?_ | refine below_drewN ?_ _ | refine Below.drew ?_ | refine Below.setCell ?_ (by first | omega | (simp; done) | (simp; omega)) _ | refine Below.alloc ?_ (by first | omega | (simp; done) | (simp; omega)) _))⟩

/-! ### FnDistances: the row -/

set_option maxRecDepth 100000 in
theorem FnDistances_lifted (os : Os) (started : os.Started) (H : Type) (enc : TypeId × Value → H) :
    ReturnsInHanded {} Try.checked os 3 .any (Rows.fnDistancesSpec.pre6 enc Try.prog Try.f3 Rows.fnDistancesRow.domain false) (Rows.fnDistancesSpec.post enc Try.prog Try.f3 false true false false) := by
  refine returnsInHanded_of_change (C := Try.checked) (by kernel_rfl) started (by kernel_rfl) Try.func3
    (ChangeSpec.witness6 (enc := enc) (C := Try.checked) false ⟨#[], #[.slice none 0 0], []⟩ 8 (by kernel_rfl) (by kernel_rfl) (by kernel_rfl) (by kernel_rfl)) ?_
  intro W base args ds gs before hval0 hW hcnd _
  have hval : ∀ (j : Nat) t v, Try.f3.params[j]? = some t → args[j]? = some v → Value.okWide Try.prog W .any base t v := hval0
  have hW2 := hW
  obtain ⟨p, q, hA0, hV, hpq, hfz, hnd⟩ := hW2
  have hA : DataW.TrodAll enc Try.prog W 0 (fun _ => true) true Try.f3.params.toList args.toList ds p := hA0
  rw [Try.params3] at hA hval
  obtain ⟨v0, d0, hargs, hds, h0⟩ := trodAll_one hA
  obtain ⟨hgs, hq⟩ := trodVars_none hV
  subst hargs
  subst hds
  subst hgs
  obtain ⟨A0, n0, c0, rfl⟩ := okWide_slice Try.underlying22 (hval 0 22 v0 rfl rfl)
  have h0b := h0
  obtain ⟨fuel, hf⟩ := h0b
  obtain ⟨hm, hby⟩ := bytes_in Try.underlying22 Try.underlying5 cells_u8 hf
  refine (FnDistances_walk A0 n0 c0 W hby).mono fun e W2 ⟨he, hb⟩ => ?_
  subst he
  exact ⟨_, rfl, law_post (by kernel_rfl) (by rw [Try.params3]; decide +kernel) (by kernel_rfl) Try.underlying4 rfl ⟨rfl, rfl, rfl⟩ hW hb⟩

theorem FnDistances_holds : Rows.FnDistancesSaid :=
  OpenClaim.holds_of_wide 3 Try.f3 rfl rfl rfl rfl rfl rfl rfl ⟨rfl, rfl, rfl, rfl, rfl⟩ rfl rfl rfl rfl rfl (by kernel_rfl) Try.func3 (by kernel_rfl)
    (of_decide_eq_true (by kernel_rfl)) (by unfold Func.isWrapper; first | (rw [if_pos (by decide +kernel)]; kernel_rfl) | (rw [if_neg (by decide +kernel)]; exact ⟨rfl, rfl⟩))
    (fun os started H enc _ => FnDistances_lifted os started H enc)

end Go.Proofs.Ytdjaiijgdflopaa
