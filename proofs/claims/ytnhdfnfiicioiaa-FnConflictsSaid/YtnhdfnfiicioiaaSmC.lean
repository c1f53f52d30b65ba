/-
  WALK of spec.ConflictOf.
-/
import Derived.Test.YtnhdfnfiicioiaaBdSmF
import Derived.Deep.AppendLies
namespace Go.Proofs.Ytnhdfnfiicioiaa
open Go.RowKit
set_option linter.unusedVariables false
set_option linter.unusedSimpArgs false

theorem RowAt.kept {w w' : World} {A : Option Addr} {xs : List Value} {r : Option Nat} (h : RowAt w A xs) (hg : w.grownBy w' r) (hne : ∀ g o, 0 < xs.length → A = some ⟨g, o, none⟩ → r ≠ some g) : RowAt w' A xs := by
  intro hx
  obtain ⟨g, o, hA, hlt, hc⟩ := h hx
  have := hg.size
  exact ⟨g, o, hA, by omega, fun j hj => (World.cell?_of_block (a := ⟨g, o + j, none⟩) (hg.block g hlt (fun e => hne g o hx hA e.symm))).trans (hc j hj)⟩
theorem RowAt.not_empty {w : World} {A : Option Addr} {xs : List Value} {b : Nat} {t : TypeId} (h : RowAt w A xs) (hb : w.heap[b]? = some (.cells #[] t (0, 0))) : ∀ g o, 0 < xs.length → A = some ⟨g, o, none⟩ → g ≠ b := by
  intro g o hx hA hgb
  subst hgb
  obtain ⟨g', o', hA', _, hc⟩ := h hx
  rw [hA'] at hA
  injection hA with hA
  injection hA with h1 h2
  subst h1
  have := hc 0 hx
  simp [World.cell?, hb] at this
theorem RowAt.lt {w : World} {A : Option Addr} {xs : List Value} (h : RowAt w A xs) : ∀ g o, 0 < xs.length → A = some ⟨g, o, none⟩ → g < w.heap.size := by
  intro g o hx hA
  obtain ⟨g', o', hA', hlt, _⟩ := h hx
  rw [hA'] at hA
  injection hA with hA
  injection hA with h1 h2
  subst h1; exact hlt
theorem take_map_next {f : Int → Int} {cs : List Int} {j : Nat} {x : Int} (h : cs[j]? = some x) : (cs.take (j + 1)).map f = (cs.take j).map f ++ [f x] := by
  rw [List.take_add_one, h]; simp

set_option maxRecDepth 100000 in
set_option maxHeartbeats 8000000 in
theorem spec_ConflictOf (n : Int) (es : List GL) (A : Option Addr) (k c : Nat) (w : World) (hn : es.length = k) (hm : k ≤ 1048576) (hr : LinkAt w A es) :
    Calls Try.prog 38 #[grV n A k c] w fun e w' => ∃ B m cb, e = .returned (.slice B m cb) ∧ m = (confR n es).length ∧ w'.ownsRow w.heap.size 3 1 (.slice B m cb) m ((confR n es).map intV) ∧ Below w.heap.size w w' := by
  have HS := Lib.hid (fun W h => spec_SimpleOk n es A k c W hn hm h)
  have HG := Lib.hid (fun W h => spec_GraphOf n es A k c W hn hm h)
  have HR := Lib.hid hr
  have HL := Lib.hid hn
  clear hr hn
  obtain ⟨i1, hii, hy0, hy1, hy2⟩ := info_parts Try.info3
  obtain ⟨ok, hok⟩ : ∃ b, b = okS n es := ⟨_, rfl⟩
  rw [← hok] at HS
  have HO := Lib.hid hok.symm
  clear hok
  unfold grV at HS HG ⊢
  cases ok with
  | false =>
    have hcf : confR n es = [] := by unfold confR; rw [if_neg (by rw [HO.out]; simp)]
    rw [hcf]
    go_enter Try.func38, Try.ntmps38
    go_wp2_with fail
    refine (HS.out _ (HR.out.below (by repeat (first | exact Below.refl _ _ | refine below_step (by assumption) (by first | omega | (simp; done) | (simp; omega)) ?_ | refine below_drewN ?_ _ | refine Below.drew ?_ | refine Below.setCell ?_ (by first | omega | (simp; done) | (simp; omega)) _ | refine Below.alloc ?_ (by first | omega | (simp; done) | (simp; omega)) _)))).mono ?_
    rintro e w1 ⟨rfl, b1⟩
    go_wp2_with fail
    go_ret
    exact ⟨none, 0, 0, rfl, rfl, World.ownsRow_nil _ _ _ _, (by repeat (first | exact Below.refl _ _ | refine below_step (by assumption) (by first | omega | (simp; done) | (simp; omega)) ?_ | refine below_drewN ?_ _ | refine Below.drew ?_ | refine Below.setCell ?_ (by first | omega | (simp; done) | (simp; omega)) _ | refine Below.alloc ?_ (by first | omega | (simp; done) | (simp; omega)) _))⟩
  | true =>
    have HLK := Lib.hid (fun W h => spec_l05Edges n es A k c W HL.out (by have := HL.out; have := okS_rng HO.out; omega) (fun e he => (okS_link HO.out he).2.2) h)
    have HC := Lib.hid (fun A' k' c' W hl hr => spec_NegativeCycle n (gE es) A' k' c' W hl (by have := (gE_len80 HO.out).1; omega) hr)
    unfold grV at HLK HC
    obtain ⟨cs, hcs⟩ : ∃ cs, cs = cycR n (gE es) := ⟨_, rfl⟩
    obtain ⟨fr, hfr⟩ : ∃ fr, fr = gI es := ⟨_, rfl⟩
    have hcin : ∀ q ∈ cs, 0 ≤ q ∧ q < fr.length := fun q hq => by rw [hcs] at hq; rw [hfr, (gE_len80 HO.out).2]; exact cycR_in HO.out hq
    have hcl : cs.length ≤ 8 := by rw [hcs]; exact cycR_len _ _
    have hcf : confR n es = cs.map (fun q => fr[q.toNat]?.getD 0) := by unfold confR; rw [if_pos HO.out, hcs, hfr]
    rw [← hcs] at HC
    rw [← hfr] at HLK
    rw [hcf]
    have HIN := Lib.hid hcin
    clear hcs hfr hcin hcf
    go_enter Try.func38, Try.ntmps38
    go_wp2_with fail
    refine (HS.out _ (HR.out.below (by repeat (first | exact Below.refl _ _ | refine below_step (by assumption) (by first | omega | (simp; done) | (simp; omega)) ?_ | refine below_drewN ?_ _ | refine Below.drew ?_ | refine Below.setCell ?_ (by first | omega | (simp; done) | (simp; omega)) _ | refine Below.alloc ?_ (by first | omega | (simp; done) | (simp; omega)) _)))).mono ?_
    rintro e w1 ⟨rfl, b1⟩
    have c0_w1 : w1.cell? ⟨w.heap.size, 0, none⟩ = some (.int .i64 n) := (b1.cell (p := ⟨w.heap.size, 0, none⟩) (by first | omega | (simp; done) | (simp; omega))).trans (by first | assumption | go_simp)
    have c1_w1 : w1.cell? ⟨w.heap.size, 1, none⟩ = some (.slice A k c) := (b1.cell (p := ⟨w.heap.size, 1, none⟩) (by first | omega | (simp; done) | (simp; omega))).trans (by first | assumption | go_simp)
    have s0_w1 : w.heap.size < w1.heap.size := Nat.lt_of_lt_of_le (by first | omega | (simp; done) | (simp; omega)) b1.size
    have B_w1 : Below w.heap.size w w1 := (by repeat (first | exact Below.refl _ _ | refine below_step (by assumption) (by first | omega | (simp; done) | (simp; omega)) ?_ | refine below_drewN ?_ _ | refine Below.drew ?_ | refine Below.setCell ?_ (by first | omega | (simp; done) | (simp; omega)) _ | refine Below.alloc ?_ (by first | omega | (simp; done) | (simp; omega)) _))
    clear b1  
    go_wp2_with fail
    refine (HLK.out _ (HR.out.below (by repeat (first | exact Below.refl _ _ | refine below_step (by assumption) (by first | omega | (simp; done) | (simp; omega)) ?_ | refine below_drewN ?_ _ | refine Below.drew ?_ | refine Below.setCell ?_ (by first | omega | (simp; done) | (simp; omega)) _ | refine Below.alloc ?_ (by first | omega | (simp; done) | (simp; omega)) _)))).mono ?_
    rintro e w2 ⟨_, _, _, D, q, cd, rfl, _, hq1, _, h2, b2⟩
    have c0_w2 : w2.cell? ⟨w.heap.size, 0, none⟩ = some (.int .i64 n) := (b2.cell (p := ⟨w.heap.size, 0, none⟩) (by first | omega | (simp; done) | (simp; omega))).trans (by first | assumption | go_simp)
    have c1_w2 : w2.cell? ⟨w.heap.size, 1, none⟩ = some (.slice A k c) := (b2.cell (p := ⟨w.heap.size, 1, none⟩) (by first | omega | (simp; done) | (simp; omega))).trans (by first | assumption | go_simp)
    have s0_w2 : w.heap.size < w2.heap.size := Nat.lt_of_lt_of_le (by first | omega | (simp; done) | (simp; omega)) b2.size
    have B_w2 : Below w.heap.size w w2 := (by repeat (first | exact Below.refl _ _ | refine below_step (by assumption) (by first | omega | (simp; done) | (simp; omega)) ?_ | refine below_drewN ?_ _ | refine Below.drew ?_ | refine Below.setCell ?_ (by first | omega | (simp; done) | (simp; omega)) _ | refine Below.alloc ?_ (by first | omega | (simp; done) | (simp; omega)) _))
    clear b2 c0_w1 c1_w1 s0_w1 B_w1
    have H2 := Lib.hid (own_row h2)
    have HF := Lib.hid (own_row h2).lt
    have HQ := Lib.hid hq1
    clear h2 hq1
    obtain ⟨b5, hb5⟩ : ∃ b, b = w2.heap.size := ⟨_, rfl⟩
    have hs5 : w.heap.size < b5 := by omega
    have HF5 : Hid (∀ g o, 0 < (fr.map intV).length → D = some ⟨g, o, none⟩ → g < b5) := Lib.hid (fun g o h1 h2 => by rw [hb5]; exact HF.out g o h1 h2)
    clear HF
    obtain ⟨w3, hw3⟩ : ∃ W, W = w2.alloc (.cells #[] 3) := ⟨_, rfl⟩
    have hb3 : Below w2.heap.size w2 w3 := by rw [hw3]; exact (Below.refl _ _).alloc (Nat.le_refl _) _
    have E3 := Lib.hid (show w3.heap[b5]? = some (.cells #[] 3 (0, 0)) from by rw [hw3, hb5]; exact heap_alloc_new _ _)
    have z3 : w3.heap.size = b5 + 1 := by rw [hw3, hb5]; simp
    go_upto_region 5 with (fail)
    rw [← hw3]
    try rw [← hb5]
    have c0_w3 : w3.cell? ⟨w.heap.size, 0, none⟩ = some (.int .i64 n) := (hb3.cell (p := ⟨w.heap.size, 0, none⟩) (by first | omega | (simp; done) | (simp; omega))).trans (by first | assumption | go_simp)
    have c1_w3 : w3.cell? ⟨w.heap.size, 1, none⟩ = some (.slice A k c) := (hb3.cell (p := ⟨w.heap.size, 1, none⟩) (by first | omega | (simp; done) | (simp; omega))).trans (by first | assumption | go_simp)
    have s0_w3 : w.heap.size < w3.heap.size := Nat.lt_of_lt_of_le (by first | omega | (simp; done) | (simp; omega)) hb3.size
    have B_w3 : Below w.heap.size w w3 := (by repeat (first | exact Below.refl _ _ | refine below_step (by assumption) (by first | omega | (simp; done) | (simp; omega)) ?_ | refine below_drewN ?_ _ | refine Below.drew ?_ | refine Below.setCell ?_ (by first | omega | (simp; done) | (simp; omega)) _ | refine Below.alloc ?_ (by first | omega | (simp; done) | (simp; omega)) _))
    have H3 := Lib.hid (H2.out.below hb3)
    clear hw3 hb3 H2 c0_w2 c1_w2 s0_w2 B_w2
    clear hb5
    go_wp2_with fail
    refine (HG.out _ (HR.out.below (by repeat (first | exact Below.refl _ _ | refine below_step (by assumption) (by first | omega | (simp; done) | (simp; omega)) ?_ | refine below_drewN ?_ _ | refine Below.drew ?_ | refine Below.setCell ?_ (by first | omega | (simp; done) | (simp; omega)) _ | refine Below.alloc ?_ (by first | omega | (simp; done) | (simp; omega)) _)))).mono ?_
    rintro e w4 ⟨B, m, cb, rfl, hm1, h4, b4⟩
    have H4 := Lib.hid (H3.out.below (w := w3) b4)
    have E4 := Lib.hid ((b4.block b5 (by omega)).trans E3.out)
    have z4 : b5 + 1 ≤ w4.heap.size := by have := b4.size; omega
    clear H3 E3 z3
    have c0_w4 : w4.cell? ⟨w.heap.size, 0, none⟩ = some (.int .i64 n) := (b4.cell (p := ⟨w.heap.size, 0, none⟩) (by first | omega | (simp; done) | (simp; omega))).trans (by first | assumption | go_simp)
    have c1_w4 : w4.cell? ⟨w.heap.size, 1, none⟩ = some (.slice A k c) := (b4.cell (p := ⟨w.heap.size, 1, none⟩) (by first | omega | (simp; done) | (simp; omega))).trans (by first | assumption | go_simp)
    have s0_w4 : w.heap.size < w4.heap.size := Nat.lt_of_lt_of_le (by first | omega | (simp; done) | (simp; omega)) b4.size
    have B_w4 : Below w.heap.size w w4 := (by repeat (first | exact Below.refl _ _ | refine below_step (by assumption) (by first | omega | (simp; done) | (simp; omega)) ?_ | refine below_drewN ?_ _ | refine Below.drew ?_ | refine Below.setCell ?_ (by first | omega | (simp; done) | (simp; omega)) _ | refine Below.alloc ?_ (by first | omega | (simp; done) | (simp; omega)) _))
    clear b4 c0_w3 c1_w3 s0_w3 B_w3
    rw [grE_yes HO.out] at hm1 h4
    have HE := Lib.hid (own_edgeS h4)
    have HM1 := Lib.hid hm1
    clear h4 hm1
    unfold grV
    rw [grN_yes HO.out]
    go_wp2_with fail
    refine (HC.out B m cb _ HM1.out.symm HE.out).mono ?_
    rintro e w5 ⟨G, p, cp, rfl, hp, hrg, b5b⟩
    have H5 := Lib.hid (H4.out.below b5b)
    have E5 := Lib.hid ((b5b.block b5 (by omega)).trans E4.out)
    have z5 : b5 + 1 ≤ w5.heap.size := by have := b5b.size; omega
    have RG := Lib.hid hrg
    clear H4 E4 z4 hrg HE
    have c0_w5 : w5.cell? ⟨w.heap.size, 0, none⟩ = some (.int .i64 n) := (b5b.cell (p := ⟨w.heap.size, 0, none⟩) (by first | omega | (simp; done) | (simp; omega))).trans (by first | assumption | go_simp)
    have c1_w5 : w5.cell? ⟨w.heap.size, 1, none⟩ = some (.slice A k c) := (b5b.cell (p := ⟨w.heap.size, 1, none⟩) (by first | omega | (simp; done) | (simp; omega))).trans (by first | assumption | go_simp)
    have s0_w5 : w.heap.size < w5.heap.size := Nat.lt_of_lt_of_le (by first | omega | (simp; done) | (simp; omega)) b5b.size
    have B_w5 : Below w.heap.size w w5 := (by repeat (first | exact Below.refl _ _ | refine below_step (by assumption) (by first | omega | (simp; done) | (simp; omega)) ?_ | refine below_drewN ?_ _ | refine Below.drew ?_ | refine Below.setCell ?_ (by first | omega | (simp; done) | (simp; omega)) _ | refine Below.alloc ?_ (by first | omega | (simp; done) | (simp; omega)) _))
    clear b5b c0_w4 c1_w4 s0_w4 B_w4
    have hp8 : p ≤ 8 := by omega
    have HP := Lib.hid hp
    clear hp
    go_wp2_with fail
    go_loopw [21, 5] (fun ii ou wr => ∃ (j : Nat) (A2 : Option Addr) (d2 : Nat), j ≤ p ∧ ii = .int .i64 j ∧ ou = .slice A2 j d2 ∧ wr.ownsRow b5 3 1 (.slice A2 j d2) j (((cs.take j).map (fun q => fr[q.toNat]?.getD 0)).map intV) ∧ (∀ q, (Value.slice A2 j d2).ownBlock = some q → q = b5 ∨ w5.heap.size ≤ q) ∧ RowAt wr G (cs.map intV) ∧ RowAt wr D (fr.map intV) ∧ w5.heap.size ≤ wr.heap.size ∧ Below w.heap.size w wr) (fun ii _ _ => p - (intOf ii).toNat)
    case atStart => exact ⟨0, _, _, Nat.zero_le _, rfl, rfl, own_emp b5 (Nat.le_refl _) E5.out, fun q hq => .inl (by simpa [Value.ownBlock] using hq.symm), RG.out, H5.out, Nat.le_refl _, B_w5⟩
    case round =>
      obtain ⟨j, A2, d2, hj, rfl, rfl, hown, hlo, hrG, hrD, hsz, hbw⟩ := hrel
      by_cases hlt : j < p
      · have hp := HP.out
        obtain ⟨x, hx⟩ : ∃ x, cs[j]? = some x := ⟨_, List.getElem?_eq_getElem (by omega)⟩
        have hxi := HIN.out x (List.mem_of_getElem? hx)
        obtain ⟨y, rfl⟩ : ∃ y : Nat, x = y := ⟨x.toNat, by omega⟩
        have hq := HQ.out
        have hyq : y < q := by omega
        obtain ⟨g1, o1, hG, hg1, hc1⟩ := hrG (by simp; omega)
        obtain ⟨g2, o2, hD, hg2, hc2⟩ := hrD (by simp; omega)
        have x1 := hc1 j (by simp; omega)
        have x2 := hc2 y (by simp; omega)
        have hxe : (cs.map intV)[j]'(by simp; omega) = .int .i64 y := by have := hx; rw [List.getElem?_eq_getElem (by omega)] at this; injection this with this; simp [intV, this]
        rw [hxe] at x1
        obtain ⟨z, hz⟩ : ∃ z, fr[y]? = some z := ⟨_, List.getElem?_eq_getElem (by omega)⟩
        have hze : (fr.map intV)[y]'(by simp; omega) = .int .i64 z := by have := hz; rw [List.getElem?_eq_getElem (by omega)] at this; injection this with this; simp [intV, this]
        rw [hze] at x2
        have HT := Lib.hid (take_map_next (f := fun q => fr[q.toNat]?.getD 0) hx)
        have hfz : fr[((y : Int)).toNat]?.getD 0 = z := by simp [hz]
        have HZ := Lib.hid hfz
        have n1 : ∀ r, (Value.slice A2 j d2).ownBlock = some r → r ≠ g1 := fun r hr e => by subst e; rcases hlo _ hr with h | h; exact RG.out.not_empty E5.out _ _ (by simp; omega) hG h; have := RG.out.lt _ _ (by simp; omega) hG; omega
        have n2 : ∀ r, (Value.slice A2 j d2).ownBlock = some r → r ≠ g2 := fun r hr e => by subst e; have := HF5.out _ _ (by simp; omega) hD; rcases hlo _ hr with h | h <;> omega
        subst hG hD
        have HOW := Lib.hid hown
        have HLO := Lib.hid hlo
        have HRG := Lib.hid hrG
        have HRD := Lib.hid hrD
        have N1 := Lib.hid n1
        have N2 := Lib.hid n2
        clear hown hlo hrG hrD n1 n2 hc1 hc2 hx hz hxe hze hp hq hxi hfz
        go_wp2_with (at_builtin; refine wpList_append_lies _ rfl _ _ 28 rfl b5 3 i1 (.int .i64 0) 1 8 Try.underlying28 hii hy0 hy1 hy2 rfl (by decide) _ _ _ rfl (HOW.out.alloc _) ⟨_, 0, none⟩ 1 1 _ rfl rfl (World.news_of_block (heap_made _ _ _ (by first | rfl | simp))) (one_c1 _) (by decide) (by unfold maxLen; omega) (by omega) (by simp; omega) _ rfl ?_)
        intro g3 cap w6 ho6 hg6 hat6 hl6
        go_wp2_with fail
        go_roundw
        case rel =>
          have hba : Below wr.heap.size wr (wr.alloc (.cells #[.int .i64 z] 3)) := (Below.refl _ _).alloc (Nat.le_refl _) _
          have hs6 := hg6.size
          simp at hs6
          refine ⟨j + 1, some ⟨g3, 0, none⟩, cap, by omega, by go_num, rfl, ?_, ?_, ?_, ?_, by omega, ?_⟩
          · rw [HT.out, HZ.out]; simpa [intV] using ho6
          · intro r hr
            have : g3 = r := by simpa [Value.ownBlock] using hr
            subst this
            rcases hat6 with h | h
            · exact HLO.out _ h
            · exact .inr (by first | omega | (simp at h; omega))
          · exact RowAt.kept (HRG.out.below hba) hg6 (fun g o _ hA e => by injection hA with hA; injection hA with h1 h2; subst h1; exact N1.out _ e rfl)
          · exact RowAt.kept (HRD.out.below hba) hg6 (fun g o _ hA e => by injection hA with hA; injection hA with h1 h2; subst h1; exact N2.out _ e rfl)
          · exact (hbw.alloc hbw.size _).grown hg6 (by have := hbw.size; simp; omega) (fun r hr => by rcases HLO.out _ hr with h | h <;> omega)
        case measure => simp [intOf]; omega
      · have hjp : j = p := by omega
        subst hjp
        have hp := HP.out
        rw [List.take_of_length_le (by omega)] at hown
        have HOW := Lib.hid hown
        clear hown
        go_wp2_with fail
        go_ret
        exact ⟨A2, j, d2, rfl, by rw [List.length_map]; exact hp, own_base HOW.out (by omega), hbw⟩

end Go.Proofs.Ytnhdfnfiicioiaa

