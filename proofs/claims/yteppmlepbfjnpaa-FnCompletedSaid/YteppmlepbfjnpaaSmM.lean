/-
  PLAIN: windows, schedules and conflicts of a network (P3).
-/
import Derived.Test.YteppmlepbfjnpaaBdSmF
import Derived.Test.YteppmlepbfjnpaaBdPaC
import Derived.Test.YteppmlepbfjnpaaSmD
namespace Go.Proofs.Yteppmlepbfjnpaa
set_option linter.unusedVariables false
set_option linter.unusedSimpArgs false

theorem gE_append (a b : List GL) : gE (a ++ b) = gE a ++ gE b := by unfold gE; exact List.flatMap_append ..
theorem gE_H {ls : List GL} {e : GL} (he : e ∈ ls) (hh : e.h ≠ 1000000) : (⟨e.f, e.t, e.h⟩ : GE) ∈ gE ls := by
  unfold gE
  rw [List.mem_flatMap]
  refine ⟨e, he, ?_⟩
  unfold lkE lkH
  rw [if_neg hh]
  simp
theorem gE_L {ls : List GL} {e : GL} (he : e ∈ ls) (hh : e.l ≠ -1000000) : (⟨e.t, e.f, -e.l⟩ : GE) ∈ gE ls := by
  unfold gE
  rw [List.mem_flatMap]
  refine ⟨e, he, ?_⟩
  unfold lkE lkL
  rw [if_neg hh]
  simp
theorem gE_of {ls : List GL} {x : GE} (hx : x ∈ gE ls) : ∃ e ∈ ls, (e.h ≠ 1000000 ∧ x = ⟨e.f, e.t, e.h⟩) ∨ (e.l ≠ -1000000 ∧ x = ⟨e.t, e.f, -e.l⟩) := by
  unfold gE at hx
  rw [List.mem_flatMap] at hx
  obtain ⟨e, he, hxe⟩ := hx
  refine ⟨e, he, ?_⟩
  unfold lkE lkH lkL at hxe
  rw [List.mem_append] at hxe
  rcases hxe with hxe | hxe
  · split at hxe
    · simp at hxe
    · next h => simp at hxe; exact .inl ⟨h, hxe⟩
  · split at hxe
    · simp at hxe
    · next h => simp at hxe; exact .inr ⟨h, hxe⟩
theorem Wk.mem {es : List GE} {e : GE} (he : e ∈ es) : Wk es e.u.toNat e.v.toNat e.c := by
  obtain ⟨j, hj, rfl⟩ := List.getElem_of_mem he
  exact Wk.one (List.getElem?_eq_getElem hj)
theorem dr_tinyS {N : Nat} {ls : List GL} (h : DrS N ls) : Tiny (gE ls) := by
  intro j x hx
  obtain ⟨e, he, h2⟩ := gE_of (List.mem_of_getElem? hx)
  obtain ⟨_, _, _, _, hd⟩ := h.1 e he
  unfold DrawnI at hd
  rcases h2 with ⟨h3, rfl⟩ | ⟨h3, rfl⟩
  · dsimp only; omega
  · dsimp only; omega

theorem cons_iff {N : Nat} {es : List GL} (hok : okS N es = true) : consR N es = true ↔ closeOk N (gE es) = true := by
  have hg := okS_okG hok
  unfold consR
  rw [hok, Bool.true_and, decide_eq_true_eq, close_iff hg]
  constructor
  · intro h
    by_cases he : (endC N (gE es)).2 = -1
    · exact he
    · have h2 := cyc_isneg hg he
      unfold negC at h2
      simp only [Bool.and_eq_true, decide_eq_true_eq] at h2
      omega
  · intro h
    rw [cycR_nil h]; rfl
theorem conf_pos {N : Nat} {es : List GL} (hok : okS N es = true) (h : consR N es = false) : 0 < (confR N es).length := by
  have hg := okS_okG hok
  have hc : ¬ closeOk N (gE es) = true := fun e => by rw [(cons_iff hok).2 e] at h; simp at h
  have he : (endC N (gE es)).2 ≠ -1 := fun e => hc ((close_iff hg).2 e)
  have h2 := cyc_isneg hg he
  unfold negC at h2
  simp only [Bool.and_eq_true, decide_eq_true_eq] at h2
  unfold confR
  rw [if_pos hok, List.length_map]
  omega
theorem conf_nil {N : Nat} {es : List GL} (h : consR N es = true) : confR N es = [] := by
  unfold consR at h
  rw [Bool.and_eq_true, decide_eq_true_eq] at h
  unfold confR
  rw [if_pos h.1, List.eq_nil_of_length_eq_zero h.2]; rfl

/-! ### The windows of a network that is drawn and consistent -/

/-- A network that is drawn and consistent. -/
structure DW (N : Nat) (ls : List GL) : Prop where
  hN : 2 ≤ N
  hN5 : N ≤ 5
  hl : ls.length ≤ 7
  hd : DrS N ls
  hc : consR N ls = true

theorem dw_ok {N : Nat} {ls : List GL} (H : DW N ls) : okS N ls = true := below_of_drawn (by have := H.hN; omega) (by have := H.hN5; omega) (by have := H.hl; omega) H.hd
theorem dw_close {N : Nat} {ls : List GL} (H : DW N ls) : closeOk N (gE ls) = true := (cons_iff (dw_ok H)).1 H.hc
/-- There is a way to each event and back. -/
theorem dw_walks {N : Nat} {ls : List GL} (H : DW N ls) : ∀ i : Nat, i < N → (∃ x, Wk (gE ls) 0 i x ∧ x ≤ 9 * i) ∧ (∃ y, Wk (gE ls) i 0 y ∧ y ≤ 0) := by
  obtain ⟨hN, hN5, hl, hd, hc⟩ := id H
  intro i
  induction i using Nat.strongRecOn with
  | _ i ih =>
    intro hi
    rcases Nat.eq_zero_or_pos i with h0 | h0
    · subst h0
      exact ⟨⟨0, Wk.nil 0, by omega⟩, ⟨0, Wk.nil 0, by omega⟩⟩
    · obtain ⟨e, he, h1, h2, h3, h4, h5, h6⟩ := hd.2 i h0 hi
      obtain ⟨f, hf⟩ : ∃ f : Nat, e.f = f := ⟨e.f.toNat, by omega⟩
      obtain ⟨⟨x, wx, hx⟩, ⟨y, wy, hy⟩⟩ := ih f (by omega) (by omega)
      have eh := Wk.mem (gE_H he (by omega))
      have el := Wk.mem (gE_L he (by omega))
      dsimp only at eh el
      rw [hf, h1] at eh el
      simp only [Int.toNat_natCast] at eh el
      exact ⟨⟨x + e.h, wx.append eh, by omega⟩, ⟨-e.l + y, el.append wy, by omega⟩⟩
def dTo (N : Nat) (ls : List GL) (i : Nat) : Int := atT N (closeC N (gE ls)) 0 i
def dBack (N : Nat) (ls : List GL) (i : Nat) : Int := atT N (closeC N (gE ls)) i 0
theorem dw_to {N : Nat} {ls : List GL} (H : DW N ls) {i : Nat} (hi : i < N) : Wk (gE ls) 0 i (dTo N ls i) ∧ dTo N ls i ≤ 45 := by
  obtain ⟨hN, hN5, hl, hd, hc⟩ := id H
  have hok := dw_ok H
  obtain ⟨⟨x, wx, hx⟩, _⟩ := dw_walks H i hi
  have hm := cell_min (okS_okG hok) (dr_tinyS hd) (dw_close H) (by omega) hi wx
  rcases cell_walk (okS_okG hok) (dr_tinyS hd) (dw_close H) (i := 0) (by omega) hi with ⟨w, _, _⟩ | ⟨_, n⟩
  · exact ⟨w, by unfold dTo; omega⟩
  · exact absurd wx (n x)
theorem dw_back {N : Nat} {ls : List GL} (H : DW N ls) {i : Nat} (hi : i < N) : Wk (gE ls) i 0 (dBack N ls i) ∧ dBack N ls i ≤ 0 := by
  obtain ⟨hN, hN5, hl, hd, hc⟩ := id H
  have hok := dw_ok H
  obtain ⟨_, ⟨x, wx, hx⟩⟩ := dw_walks H i hi
  have hm := cell_min (okS_okG hok) (dr_tinyS hd) (dw_close H) hi (by omega) wx
  rcases cell_walk (okS_okG hok) (dr_tinyS hd) (dw_close H) hi (k := 0) (by omega) with ⟨w, _, _⟩ | ⟨_, n⟩
  · exact ⟨w, by unfold dBack; omega⟩
  · exact absurd wx (n x)
theorem dw_rng {N : Nat} {ls : List GL} (H : DW N ls) {i : Nat} (hi : i < N) : 0 ≤ dTo N ls i ∧ dTo N ls i ≤ 45 ∧ 0 ≤ -dBack N ls i ∧ -dBack N ls i ≤ dTo N ls i := by
  obtain ⟨hN, hN5, hl, hd, hc⟩ := id H
  have hok := dw_ok H
  obtain ⟨w1, b1⟩ := dw_to H hi
  obtain ⟨w2, b2⟩ := dw_back H hi
  have := close_neg (okS_okG hok) (dw_close H) (by omega) (w1.append w2)
  omega
theorem dw_win {N : Nat} {ls : List GL} (H : DW N ls) {i : Nat} (hi : i < N) : wB N ls i = true ∧ wL N ls i = -dBack N ls i ∧ wH N ls i = dTo N ls i := by
  obtain ⟨hN, hN5, hl, hd, hc⟩ := id H
  have hok := dw_ok H
  have hcl := dw_close H
  have hr := dw_rng H hi
  have hT := close_okT (okS_okG hok) (dr_tinyS hd) hcl
  have e1 : (closeR N (gE ls)).1 = N ∧ wTab N ls = closeC N (gE ls) := by unfold wTab; rw [closeR_yes (okS_okG hok) hcl]; exact ⟨rfl, rfl⟩
  have hw : winB N (closeC N (gE ls)) 0 (i : Int) = okI (-(atT N (closeC N (gE ls)) i 0)) (atT N (closeC N (gE ls)) 0 i) := winB_at (i := 0) hT (by omega) hi
  have hoki : okI (-(atT N (closeC N (gE ls)) i 0)) (atT N (closeC N (gE ls)) 0 i) = true := by
    unfold dTo dBack at hr
    unfold okI; exact decide_eq_true (by omega)
  rw [hoki] at hw
  have hb : wB N ls i = true := by unfold wB; rw [hc, e1.1, e1.2]; exact hw
  refine ⟨hb, ?_, ?_⟩
  · unfold wL; rw [if_pos hb, e1.1, e1.2]
    unfold winL; rw [if_pos hw]; simp [wLo, dBack]
  · unfold wH; rw [if_pos hb, e1.1, e1.2]
    unfold winH; rw [if_pos hw]; simp [wHi, dTo]
theorem dw_ear {N : Nat} {ls : List GL} (H : DW N ls) : earR N ls = ((List.range N).map (fun i : Nat => wL N ls i), true) := by
  obtain ⟨hN, hN5, hl, hd, hc⟩ := id H
  have hm : min ((N : Int)).toNat 8 = N := by simp; omega
  rw [earR_good]
  · rw [hm]; unfold earL; rw [decide_eq_true (by omega)]
  · rw [hm, List.all_eq_true]
    intro i hi
    have hi2 : i < N := by simpa using hi
    obtain ⟨h1, h2, _⟩ := dw_win H hi2
    have := dw_rng H hi2
    unfold earG; rw [h1, h2, decide_eq_true (by omega)]; rfl
theorem dw_lat {N : Nat} {ls : List GL} (H : DW N ls) : latR N ls = ((List.range N).map (fun i : Nat => wH N ls i), true) := by
  obtain ⟨hN, hN5, hl, hd, hc⟩ := id H
  have hm : min ((N : Int)).toNat 8 = N := by simp; omega
  rw [latR_good]
  · rw [hm]; unfold latL; rw [decide_eq_true (by omega)]
  · rw [hm, List.all_eq_true]
    intro i hi
    have hi2 : i < N := by simpa using hi
    obtain ⟨h1, _, h3⟩ := dw_win H hi2
    have := dw_rng H hi2
    unfold latG; rw [h1, h3, decide_eq_true (by omega)]; rfl
/-- A list of times, one for each event, that keeps all edges and begins at 0, is a schedule. -/
theorem dw_sch {N : Nat} {ls : List GL} (H : DW N ls) {g : Nat → Int} (h0 : g 0 = 0) (hr : ∀ i, i < N → -1000000 ≤ g i ∧ g i ≤ 1000000) (he : ∀ x ∈ gE ls, g x.v.toNat - g x.u.toNat ≤ x.c) : schR N ls ((List.range N).map g) = true := by
  obtain ⟨hN, hN5, hl, hd, hc⟩ := id H
  have hok := dw_ok H
  have hln : ((List.range N).map g).length = N := by simp
  have htm : tmR N ls ((List.range N).map g) = true := by
    unfold tmR
    rw [hok, decide_eq_true (by rw [hln]), Bool.true_and, Bool.true_and, List.all_eq_true]
    intro x hx
    rw [List.mem_map] at hx
    obtain ⟨i, hi, rfl⟩ := hx
    have := hr i (by simpa using hi)
    unfold inB
    rw [decide_eq_true this.1, decide_eq_true this.2]; rfl
  have hget : ∀ i, i < N → ((List.range N).map g)[i]?.getD 0 = g i := fun i hi => by
    rw [List.getElem?_map, List.getElem?_range hi]; rfl
  have hj : brJ ls ((List.range N).map g) = -1 := by
    refine brJ_none ?_
    rw [List.take_of_length_le (Nat.le_refl _), List.all_eq_true]
    intro e hem
    obtain ⟨h1, h2, h3, h4, h5⟩ := hd.1 e hem
    have hoki := (okS_link hok hem).2.2
    unfold holdsL
    rw [hget _ (by omega), hget _ (by omega)]
    unfold inI
    rw [hoki, Bool.true_and]
    refine decide_eq_true ⟨?_, ?_⟩
    · by_cases hi : e.l = -1000000
      · exact .inl hi
      · have := he _ (gE_L hem hi)
        dsimp only at this
        exact .inr (by omega)
    · by_cases hi : e.h = 1000000
      · exact .inl hi
      · have := he _ (gE_H hem hi)
        dsimp only at this
        exact .inr (by omega)
  unfold schR
  rw [htm, hget 0 (by omega), h0]
  unfold brR
  rw [if_pos htm, hj]; rfl
theorem dw_edge {N : Nat} {ls : List GL} (H : DW N ls) {x : GE} (hx : x ∈ gE ls) : x.u.toNat < N ∧ x.v.toNat < N := by
  obtain ⟨hN, hN5, hl, hd, hc⟩ := id H
  obtain ⟨j, hj, rfl⟩ := List.getElem_of_mem hx
  exact okG_nodes (okS_okG (dw_ok H)) j _ (List.getElem?_eq_getElem hj)
theorem dw_ear_sch {N : Nat} {ls : List GL} (H : DW N ls) : schR N ls (earR N ls).1 = true := by
  obtain ⟨hN, hN5, hl, hd, hc⟩ := id H
  have hok := dw_ok H
  rw [dw_ear H]
  have e1 : (List.range N).map (fun i : Nat => wL N ls i) = (List.range N).map (fun i : Nat => -dBack N ls i) := by
    apply List.map_congr_left
    intro i hi
    exact (dw_win H (by simpa using hi)).2.1
  dsimp only
  rw [e1]
  refine dw_sch H ?_ (fun i hi => by have := dw_rng H hi; omega) (fun x hx => ?_)
  · unfold dBack; rw [cell_diag (okS_okG hok) (dr_tinyS hd) (dw_close H) (by omega)]; rfl
  · obtain ⟨hu, hv⟩ := dw_edge H hx
    obtain ⟨w, _⟩ := dw_back H hv
    have := cell_min (okS_okG hok) (dr_tinyS hd) (dw_close H) hu (by omega) ((Wk.mem hx).append w)
    (try dsimp only)
    unfold dBack at this ⊢
    omega
theorem dw_lat_sch {N : Nat} {ls : List GL} (H : DW N ls) : schR N ls (latR N ls).1 = true := by
  obtain ⟨hN, hN5, hl, hd, hc⟩ := id H
  have hok := dw_ok H
  rw [dw_lat H]
  have e1 : (List.range N).map (fun i : Nat => wH N ls i) = (List.range N).map (fun i : Nat => dTo N ls i) := by
    apply List.map_congr_left
    intro i hi
    exact (dw_win H (by simpa using hi)).2.2
  dsimp only
  rw [e1]
  refine dw_sch H ?_ (fun i hi => by have := dw_rng H hi; omega) (fun x hx => ?_)
  · unfold dTo; rw [cell_diag (okS_okG hok) (dr_tinyS hd) (dw_close H) (by omega)]
  · obtain ⟨hu, hv⟩ := dw_edge H hx
    obtain ⟨w, _⟩ := dw_to H hu
    have := cell_min (okS_okG hok) (dr_tinyS hd) (dw_close H) (by omega) hv (w.append (Wk.mem hx))
    (try dsimp only)
    unfold dTo at this ⊢
    omega
/-- No schedule leaves the windows. -/
theorem dw_in {N : Nat} {ls : List GL} (H : DW N ls) {ts : List Int} (hs : schR N ls ts = true) {i : Nat} (hi : i < N) : -dBack N ls i ≤ ts[i]?.getD 0 ∧ ts[i]?.getD 0 ≤ dTo N ls i := by
  obtain ⟨hN, hN5, hl, hd, hc⟩ := id H
  unfold schR at hs
  rw [Bool.and_eq_true, Bool.and_eq_true, decide_eq_true_eq, decide_eq_true_eq] at hs
  obtain ⟨⟨htm, h0⟩, hb⟩ := hs
  obtain ⟨hok, hln, hrg⟩ := tmR_ok htm
  have hall : ∀ e ∈ ls, holdsL ts e = true := by
    intro e he
    cases hh : holdsL ts e with
    | true => rfl
    | false =>
      have : ls.findIdx (fun e => !holdsL ts e) < ls.length := List.findIdx_lt_length_of_exists ⟨e, he, by simp [hh]⟩
      unfold brR brJ at hb
      rw [if_pos htm, if_pos this] at hb
      omega
  have hedge : ∀ x ∈ gE ls, ts[x.v.toNat]?.getD 0 - ts[x.u.toNat]?.getD 0 ≤ x.c := by
    intro x hx
    obtain ⟨e, he, h2⟩ := gE_of hx
    have hh := hall e he
    unfold holdsL inI at hh
    rw [Bool.and_eq_true, decide_eq_true_eq] at hh
    rcases h2 with ⟨h3, rfl⟩ | ⟨h3, rfl⟩
    · dsimp only; omega
    · dsimp only; omega
  have hwk : ∀ {a b : Nat} {x : Int}, Wk (gE ls) a b x → ts[b]?.getD 0 - ts[a]?.getD 0 ≤ x := by
    intro a b x w
    induction w with
    | nil => omega
    | snoc j e _ he hu ih =>
      have := hedge e (List.mem_of_getElem? he)
      subst hu
      omega
  have h1 := hwk (dw_to H hi).1
  have h2 := hwk (dw_back H hi).1
  rw [h0] at h1 h2
  omega

/-! ### Conflicts -/

theorem nil_cons {N : Nat} (h1 : 1 ≤ N) (h2 : N ≤ 8) : consR N [] = true := by
  have hok : okS N [] = true := by unfold okS; rw [decide_eq_true ⟨by omega, by omega, by simp⟩]; rfl
  rw [cons_iff hok]
  cases hc : closeOk N (gE []) with
  | true => rfl
  | false =>
    obtain ⟨x, y, w, hy, _⟩ := not_close (okS_okG hok) hc
    exfalso
    have : ∀ {a b : Nat} {z : Int}, Wk (gE []) a b z → z = 0 := by
      intro a b z w
      cases w with
      | nil => rfl
      | snoc j e _ he _ => simp [gE] at he
    have := this w
    omega
/-- A closed list of edges, all of them among the first ones, is a closed walk over those. -/
theorem cyc_wk {es fs : List GE} {zs : List Int} (hcl : closedTo (es ++ fs) zs zs.length = true) (hin : ∀ q ∈ zs, 0 ≤ q ∧ q < es.length) :
    ∀ q, q < zs.length → ∃ z0 zq, zs[0]? = some z0 ∧ zs[q]? = some zq ∧ Wk es (edE (es ++ fs) z0).u.toNat (edE (es ++ fs) zq).v.toNat (sumTo (es ++ fs) zs (q + 1)) := by
  have hlink : ∀ j, j < zs.length → linkE (es ++ fs) zs j = true := by
    intro j hj
    cases hh : linkE (es ++ fs) zs j with
    | true => rfl
    | false => rw [closedTo_not _ _ hh _ hj] at hcl; simp at hcl
  have hat : ∀ j (hj : j < zs.length), ∃ p : Nat, ∃ e, zs[j]? = some (p : Int) ∧ es[p]? = some e ∧ edE (es ++ fs) (p : Int) = e ∧ (es ++ fs)[p]? = some e := by
    intro j hj
    have h := hin zs[j] (List.getElem_mem hj)
    obtain ⟨p, hp⟩ : ∃ p : Nat, zs[j] = p := ⟨zs[j].toNat, by omega⟩
    have hp2 : p < es.length := by omega
    have h3 : (es ++ fs)[p]? = some es[p] := by rw [List.getElem?_append_left hp2]; exact List.getElem?_eq_getElem hp2
    exact ⟨p, es[p], by rw [← hp]; exact List.getElem?_eq_getElem hj, List.getElem?_eq_getElem hp2, edE_at _ h3, h3⟩
  intro q
  induction q with
  | zero =>
    intro hq
    obtain ⟨p, e, h1, h2, h3, h4⟩ := hat 0 hq
    refine ⟨p, p, h1, h1, ?_⟩
    rw [h3, sumTo_in h1 h4]
    have : sumTo (es ++ fs) zs 0 = 0 := rfl
    rw [this, Int.zero_add]
    exact Wk.one h2
  | succ q ih =>
    intro hq
    obtain ⟨z0, zq, h0, hzq, w⟩ := ih (by omega)
    obtain ⟨p, e, h1, h2, h3, h4⟩ := hat (q + 1) hq
    refine ⟨z0, p, h0, h1, ?_⟩
    have hl := hlink (q + 1) hq
    rw [link_eq (es ++ fs) zs rfl h1 (b := zq) (by
      rw [show (q + 1 + zs.length - 1) = q + zs.length from by omega, Nat.add_mod_right, Nat.mod_eq_of_lt (by omega)]; exact hzq)] at hl
    rw [Bool.and_eq_true, Bool.and_eq_true, decide_eq_true_eq] at hl
    rw [sumTo_in h1 h4, h3]
    refine Wk.snoc p e w h2 ?_
    rw [hl.2, h3]
theorem gI_snoc (ls : List GL) (l : GL) : gI (ls ++ [l]) = gI ls ++ lkI l (ls.length : Int) := by
  have h : ∀ j, j ≤ ls.length → fromJ (ls ++ [l]) j = fromJ ls j := by
    intro j
    induction j with
    | zero => intro _; rfl
    | succ j ih =>
      intro hj
      have e1 : (ls ++ [l])[j]? = some ls[j] := by rw [List.getElem?_append_left (by omega)]; exact List.getElem?_eq_getElem (by omega)
      rw [fromJ_next e1, fromJ_next (List.getElem?_eq_getElem (by omega)), ih (by omega)]
  unfold gI
  rw [List.length_append]
  have e1 : (ls ++ [l])[ls.length]? = some l := by simp
  rw [show ls.length + [l].length = ls.length + 1 from rfl, fromJ_next e1, h _ (Nat.le_refl _)]
/-- The conflict of a network that one link made inconsistent contains this link. -/
theorem conf_last {N : Nat} {ls : List GL} {l : GL} (hok : okS N (ls ++ [l]) = true) (hokn : okS N ls = true) (hc : consR N ls = true) (hm : consR N (ls ++ [l]) = false) : (ls.length : Int) ∈ confR N (ls ++ [l]) := by
  have hg := okS_okG hok
  have he : (endC N (gE (ls ++ [l]))).2 ≠ -1 := fun e => by rw [(cons_iff hok).2 ((close_iff hg).2 e)] at hm; simp at hm
  have h2 := cyc_isneg hg he
  have hin := fun q hq => cycR_in (n := N) (es := ls ++ [l]) hok (q := q) hq
  obtain ⟨zs, hzs⟩ : ∃ zs, zs = cycR N (gE (ls ++ [l])) := ⟨_, rfl⟩
  rw [← hzs] at h2 hin
  unfold negC at h2
  simp only [Bool.and_eq_true, decide_eq_true_eq] at h2
  obtain ⟨⟨⟨_, hpos⟩, hcl⟩, hneg⟩ := h2
  have hge : gE (ls ++ [l]) = gE ls ++ lkE l := by rw [gE_append]; unfold gE; simp
  have hlI := (lkE_length l (ls.length : Int)).1
  have hlg := (gE_len80 hokn).2
  have hll := (gE_len80 hok).2
  by_cases hall : ∀ q ∈ zs, 0 ≤ q ∧ q < (gE ls).length
  · exfalso
    rw [hge] at hcl hneg
    obtain ⟨z0, zq, e0, eq, w⟩ := cyc_wk hcl hall (zs.length - 1) (by omega)
    have hl0 : linkE (gE ls ++ lkE l) zs 0 = true := by
      cases hh : linkE (gE ls ++ lkE l) zs 0 with
      | true => rfl
      | false => rw [closedTo_not _ _ hh _ hpos] at hcl; simp at hcl
    rw [link_eq (gE ls ++ lkE l) zs rfl e0 (b := zq) (by rw [show 0 + zs.length - 1 = zs.length - 1 from by omega, Nat.mod_eq_of_lt (by omega)]; exact eq)] at hl0
    rw [Bool.and_eq_true, Bool.and_eq_true, decide_eq_true_eq] at hl0
    rw [hl0.2, show zs.length - 1 + 1 = zs.length from by omega] at w
    have hcn := (cons_iff hokn).1 hc
    have hx : (edE (gE ls ++ lkE l) z0).u.toNat < N := by
      obtain ⟨a, b⟩ := hall z0 (List.mem_of_getElem? e0)
      obtain ⟨p, rfl⟩ : ∃ p : Nat, z0 = p := ⟨z0.toNat, by omega⟩
      have hp : p < (gE ls).length := by omega
      have h4 : (gE ls ++ lkE l)[p]? = some (gE ls)[p] := by rw [List.getElem?_append_left hp]; exact List.getElem?_eq_getElem hp
      rw [edE_at _ h4]
      exact (okG_nodes (okS_okG hokn) p _ (List.getElem?_eq_getElem hp)).1
    have := close_neg (okS_okG hokn) hcn hx w
    omega
  · simp only [Classical.not_forall] at hall
    obtain ⟨q, hq, hnq⟩ := hall
    obtain ⟨a, b⟩ := hin q hq
    unfold confR
    rw [if_pos hok, ← hzs, List.mem_map]
    refine ⟨q, hq, ?_⟩
    obtain ⟨p, rfl⟩ : ∃ p : Nat, q = p := ⟨q.toNat, by omega⟩
    have hp1 : (gI ls).length ≤ p := by omega
    have hp2 : p < (gI (ls ++ [l])).length := by omega
    rw [gI_snoc] at hp2 ⊢
    rw [Int.toNat_natCast, List.getElem?_append_right hp1]
    have hp3 : p - (gI ls).length < (lkI l (ls.length : Int)).length := by rw [List.length_append] at hp2; omega
    rw [List.getElem?_eq_getElem hp3]
    have hmem := List.getElem_mem hp3
    have : ∀ y ∈ lkI l (ls.length : Int), y = (ls.length : Int) := by
      intro y hy
      unfold lkI at hy
      rw [List.mem_append] at hy
      rcases hy with hy | hy
      · split at hy
        · simp at hy
        · simpa using hy
      · split at hy
        · simp at hy
        · simpa using hy
    exact this _ hmem

end Go.Proofs.Yteppmlepbfjnpaa

