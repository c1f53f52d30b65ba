/-
  PLAIN: the windows and the completion of partial schedules of networks that are drawn: what promise P3 says of them.
-/
import Derived.Test.YteppmlepbfjnpaaPaN
import Derived.Test.YteppmlepbfjnpaaSmM
import Derived.Test.YteppmlepbfjnpaaBdLkM
namespace Go.Proofs.Yteppmlepbfjnpaa
set_option linter.unusedVariables false
set_option linter.unusedSimpArgs false

/-- Numbers that keep all edges of a network. -/
def Pot (g : Nat → Int) (ls : List GL) : Prop := ∀ x ∈ gE ls, g x.v.toNat - g x.u.toNat ≤ x.c
theorem Pot.walk {g : Nat → Int} {ls : List GL} (h : Pot g ls) {a b : Nat} {x : Int} (w : Wk (gE ls) a b x) : g b - g a ≤ x := by
  induction w with
  | nil => omega
  | snoc j e _ he hu ih =>
    have := h e (List.mem_of_getElem? he)
    subst hu
    omega
theorem pot_cons {N : Nat} {ls : List GL} (hok : okS N ls = true) {g : Nat → Int} (hg : Pot g ls) : consR N ls = true := by
  rw [cons_iff hok]
  cases hc : closeOk N (gE ls) with
  | true => rfl
  | false =>
    obtain ⟨x, y, w, hy, _⟩ := not_close (okS_okG hok) hc
    have := hg.walk w
    omega
/-- A consistent network with ways to each event and back, of small weights. -/
structure GW (N : Nat) (ls : List GL) : Prop where
  hN : 2 ≤ N
  hN5 : N ≤ 5
  ok : okS N ls = true
  tiny : Tiny (gE ls)
  hc : consR N ls = true
  walks : ∀ i : Nat, i < N → (∃ x, Wk (gE ls) 0 i x ∧ x ≤ 45) ∧ (∃ y, Wk (gE ls) i 0 y ∧ y ≤ 0)
theorem GW.close {N : Nat} {ls : List GL} (H : GW N ls) : closeOk N (gE ls) = true := (cons_iff H.ok).1 H.hc
theorem GW.okG {N : Nat} {ls : List GL} (H : GW N ls) : okG N (gE ls) = true := okS_okG H.ok
theorem drawn_walks {N : Nat} {ls : List GL} (hN : 2 ≤ N) (hN5 : N ≤ 5) (hd : DrS N ls) : ∀ i : Nat, i < N → (∃ x, Wk (gE ls) 0 i x ∧ x ≤ 9 * i) ∧ (∃ y, Wk (gE ls) i 0 y ∧ y ≤ 0) := by
  intro i
  induction i using Nat.strongRecOn with
  | _ i ih =>
    intro hi
    rcases Nat.eq_zero_or_pos i with h0 | h0
    · subst h0
      exact ⟨⟨0, Wk.nil 0, by omega⟩, ⟨0, Wk.nil 0, by omega⟩⟩
    · obtain ⟨e, he, h1, h2, h3, h4, h5, h6⟩ := hd.2 i h0 hi
      obtain ⟨f, hf⟩ : ∃ f : Nat, e.f = f := ⟨e.f.toNat, by omega⟩
      obtain ⟨⟨x, wx, hx⟩, ⟨y, wy, hy⟩⟩ := ih f (by omega) (by omega)
      have eh := Wk.mem (gE_H he (by omega))
      have el := Wk.mem (gE_L he (by omega))
      dsimp only at eh el
      rw [hf, h1] at eh el
      simp only [Int.toNat_natCast] at eh el
      exact ⟨⟨x + e.h, wx.append eh, by omega⟩, ⟨-e.l + y, el.append wy, by omega⟩⟩
/-- A drawn network with more links of small weights, if it is consistent. -/
theorem gw_of {N : Nat} {es fs : List GL} (hN : 2 ≤ N) (hN5 : N ≤ 5) (hd : DrS N es) (hok : okS N (es ++ fs) = true) (ht : ∀ x ∈ gE fs, -100 ≤ x.c ∧ x.c ≤ 100) (hc : consR N (es ++ fs) = true) : GW N (es ++ fs) := by
  refine ⟨hN, hN5, hok, ?_, hc, fun i hi => ?_⟩
  · intro j e he
    rw [gE_append] at he
    rcases List.mem_append.1 (List.mem_of_getElem? he) with h | h
    · obtain ⟨q, hq, rfl⟩ := List.getElem_of_mem h
      exact dr_tinyS hd q _ (List.getElem?_eq_getElem hq)
    · exact ht e h
  · obtain ⟨⟨x, wx, hx⟩, ⟨y, wy, hy⟩⟩ := drawn_walks hN hN5 hd i hi
    rw [gE_append]
    exact ⟨⟨x, wx.more, by omega⟩, ⟨y, wy.more, hy⟩⟩
theorem gw_dw {N : Nat} {ls : List GL} (H : DW N ls) : GW N ls := by
  have := gw_of (fs := []) H.hN H.hN5 H.hd (by rw [List.append_nil]; exact dw_ok H) (fun x hx => by simp [gE] at hx) (by rw [List.append_nil]; exact H.hc)
  rwa [List.append_nil] at this
theorem gw_to {N : Nat} {ls : List GL} (H : GW N ls) {i : Nat} (hi : i < N) : Wk (gE ls) 0 i (dTo N ls i) ∧ dTo N ls i ≤ 45 := by
  have h2 := H.hN
  obtain ⟨⟨x, wx, hx⟩, _⟩ := H.walks i hi
  have hm := cell_min H.okG H.tiny H.close (by omega) hi wx
  rcases cell_walk H.okG H.tiny H.close (i := 0) (by omega) hi with ⟨w, _, _⟩ | ⟨_, n⟩
  · exact ⟨w, by unfold dTo; omega⟩
  · exact absurd wx (n x)
theorem gw_back {N : Nat} {ls : List GL} (H : GW N ls) {i : Nat} (hi : i < N) : Wk (gE ls) i 0 (dBack N ls i) ∧ dBack N ls i ≤ 0 := by
  have h2 := H.hN
  obtain ⟨_, ⟨x, wx, hx⟩⟩ := H.walks i hi
  have hm := cell_min H.okG H.tiny H.close hi (by omega) wx
  rcases cell_walk H.okG H.tiny H.close hi (k := 0) (by omega) with ⟨w, _, _⟩ | ⟨_, n⟩
  · exact ⟨w, by unfold dBack; omega⟩
  · exact absurd wx (n x)
theorem gw_rng {N : Nat} {ls : List GL} (H : GW N ls) {i : Nat} (hi : i < N) : 0 ≤ dTo N ls i ∧ dTo N ls i ≤ 45 ∧ 0 ≤ -dBack N ls i ∧ -dBack N ls i ≤ dTo N ls i := by
  have h2 := H.hN
  obtain ⟨w1, b1⟩ := gw_to H hi
  obtain ⟨w2, b2⟩ := gw_back H hi
  have := close_neg H.okG H.close (by omega) (w1.append w2)
  omega
theorem gw_win {N : Nat} {ls : List GL} (H : GW N ls) {i : Nat} (hi : i < N) : wB N ls i = true ∧ wL N ls i = -dBack N ls i ∧ wH N ls i = dTo N ls i := by
  have h2 := H.hN
  have hcl := H.close
  have hr := gw_rng H hi
  have hT := close_okT H.okG H.tiny hcl
  have e1 : (closeR N (gE ls)).1 = N ∧ wTab N ls = closeC N (gE ls) := by unfold wTab; rw [closeR_yes H.okG hcl]; exact ⟨rfl, rfl⟩
  have hw : winB N (closeC N (gE ls)) 0 (i : Int) = okI (-(atT N (closeC N (gE ls)) i 0)) (atT N (closeC N (gE ls)) 0 i) := winB_at (i := 0) hT (by omega) hi
  have hoki : okI (-(atT N (closeC N (gE ls)) i 0)) (atT N (closeC N (gE ls)) 0 i) = true := by
    unfold dTo dBack at hr
    unfold okI; exact decide_eq_true (by omega)
  rw [hoki] at hw
  have hb : wB N ls i = true := by unfold wB; rw [H.hc, e1.1, e1.2]; exact hw
  refine ⟨hb, ?_, ?_⟩
  · unfold wL; rw [if_pos hb, e1.1, e1.2]
    unfold winL; rw [if_pos hw]; simp [wLo, dBack]
  · unfold wH; rw [if_pos hb, e1.1, e1.2]
    unfold winH; rw [if_pos hw]; simp [wHi, dTo]
theorem gw_edge {N : Nat} {ls : List GL} (H : GW N ls) {x : GE} (hx : x ∈ gE ls) : x.u.toNat < N ∧ x.v.toNat < N := by
  obtain ⟨j, hj, rfl⟩ := List.getElem_of_mem hx
  exact okG_nodes H.okG j _ (List.getElem?_eq_getElem hj)
theorem gw_potE {N : Nat} {ls : List GL} (H : GW N ls) : Pot (fun i => -dBack N ls i) ls := by
  intro x hx
  have h2 := H.hN
  obtain ⟨hu, hv⟩ := gw_edge H hx
  obtain ⟨w, _⟩ := gw_back H hv
  have := cell_min H.okG H.tiny H.close hu (by omega) ((Wk.mem hx).append w)
  (try dsimp only)
  unfold dBack at this ⊢
  omega
theorem gw_potL {N : Nat} {ls : List GL} (H : GW N ls) : Pot (fun i => dTo N ls i) ls := by
  intro x hx
  have h2 := H.hN
  obtain ⟨hu, hv⟩ := gw_edge H hx
  obtain ⟨w, _⟩ := gw_to H hu
  have := cell_min H.okG H.tiny H.close (by omega) hv (w.append (Wk.mem hx))
  (try dsimp only)
  unfold dTo at this ⊢
  omega
theorem gw_zero {N : Nat} {ls : List GL} (H : GW N ls) : dBack N ls 0 = 0 ∧ dTo N ls 0 = 0 := by
  have h2 := H.hN
  unfold dBack dTo
  rw [cell_diag H.okG H.tiny H.close (by omega)]
  exact ⟨rfl, rfl⟩
theorem gw_in {N : Nat} {ls : List GL} (H : GW N ls) {g : Nat → Int} (hg : Pot g ls) (h0 : g 0 = 0) {i : Nat} (hi : i < N) : -dBack N ls i ≤ g i ∧ g i ≤ dTo N ls i := by
  have h1 := hg.walk (gw_to H hi).1
  have h2 := hg.walk (gw_back H hi).1
  omega
/-- Numbers that keep all edges and begin at 0 are a schedule. -/
theorem pot_sch {N : Nat} {ls : List GL} (hok : okS N ls = true) {g : Nat → Int} (h0 : g 0 = 0) (hr : ∀ i, i < N → -1000000 ≤ g i ∧ g i ≤ 1000000) (he : Pot g ls) : schR N ls ((List.range N).map g) = true := by
  have hrg := okS_rng hok
  have hln : ((List.range N).map g).length = N := by simp
  have htm : tmR N ls ((List.range N).map g) = true := by
    unfold tmR
    rw [hok, decide_eq_true (by rw [hln]), Bool.true_and, Bool.true_and, List.all_eq_true]
    intro x hx
    rw [List.mem_map] at hx
    obtain ⟨i, hi, rfl⟩ := hx
    have := hr i (by simpa using hi)
    unfold inB
    rw [decide_eq_true this.1, decide_eq_true this.2]; rfl
  have hget : ∀ i, i < N → ((List.range N).map g)[i]?.getD 0 = g i := fun i hi => by
    rw [List.getElem?_map, List.getElem?_range hi]; rfl
  have hj : brJ ls ((List.range N).map g) = -1 := by
    refine brJ_none ?_
    rw [List.take_of_length_le (Nat.le_refl _), List.all_eq_true]
    intro e hem
    obtain ⟨h1, h2, hoki⟩ := okS_link hok hem
    unfold holdsL
    rw [hget _ (by omega), hget _ (by omega)]
    unfold inI
    rw [hoki, Bool.true_and]
    refine decide_eq_true ⟨?_, ?_⟩
    · by_cases hi : e.l = -1000000
      · exact .inl hi
      · have := he _ (gE_L hem hi)
        dsimp only at this
        exact .inr (by omega)
    · by_cases hi : e.h = 1000000
      · exact .inl hi
      · have := he _ (gE_H hem hi)
        dsimp only at this
        exact .inr (by omega)
  unfold schR
  rw [htm, hget 0 (by omega), h0]
  unfold brR
  rw [if_pos htm, hj]; rfl

/-! ### The links that fix times -/

theorem pot_fix {g : Nat → Int} {es : List GL} {ts : List Int} (h0 : g 0 = 0) (he : Pot g es) (hf : ∀ (i : Nat) (y : Int), 0 < i → ts[i]? = some y → y ≠ -1 → g i = y) : Pot g (es ++ fixL ts) := by
  intro x hx
  rw [gE_append] at hx
  rcases List.mem_append.1 hx with h | h
  · exact he x h
  · obtain ⟨i, y, h1, h2, h3, h4⟩ := gE_fix h
    have := hf i y h1 h2 h3
    rcases h4 with rfl | rfl
    · dsimp only; simp only [Int.toNat_natCast, Int.toNat_zero]; omega
    · dsimp only; simp only [Int.toNat_natCast, Int.toNat_zero]; omega
theorem pot_left {g : Nat → Int} {es fs : List GL} (h : Pot g (es ++ fs)) : Pot g es := fun x hx => h x (by rw [gE_append]; exact List.mem_append_left _ hx)
theorem pot_fixed {g : Nat → Int} {es : List GL} {ts : List Int} (h0 : g 0 = 0) (h : Pot g (es ++ fixL ts)) {i : Nat} {y : Int} (hi : 0 < i) (hy : ts[i]? = some y) (hn : y ≠ -1) (h1 : y ≠ 1000000) (h2 : y ≠ -1000000) : g i = y := by
  have hm : (⟨0, i, y, y⟩ : GL) ∈ es ++ fixL ts := List.mem_append_right _ (mem_fixL.2 ⟨i, y, hi, hy, hn, rfl⟩)
  have a := h _ (gE_H hm h1)
  have b := h _ (gE_L hm h2)
  dsimp only at a b
  simp only [Int.toNat_natCast, Int.toNat_zero] at a b
  omega
/-- Small times, for each event, with 0 at first. -/
structure PT (N : Nat) (ts : List Int) : Prop where
  hl : ts.length = N
  h0 : ts[0]? = some 0
  hr : ∀ x ∈ ts, -1 ≤ x ∧ x ≤ 45
theorem pt_pok {N : Nat} {es : List GL} {ts : List Int} (hok : okS N es = true) (h : PT N ts) : pokR N es ts = true := by
  refine pokR_yes hok (by rw [h.hl]) (by rw [h.h0]; rfl) ?_
  rw [List.take_of_length_le (Nat.le_refl _), List.all_eq_true]
  intro x hx
  have := h.hr x hx
  unfold inP
  rw [decide_eq_true (by omega), decide_eq_true (by omega)]; rfl
theorem pt_ok {N : Nat} {es : List GL} {ts : List Int} (hok : okS N es = true) (hl : es.length ≤ 7) (h : PT N ts) : okS N (es ++ fixL ts) = true := by
  have hr := okS_rng hok
  have hf : (fixL ts).length ≤ N := by have := fixJ_len ts ts.length; unfold fixL; rw [h.hl] at this ⊢; exact this
  unfold okS
  rw [decide_eq_true ⟨hr.1, hr.2.1, by rw [List.length_append]; omega⟩, Bool.true_and, List.all_append, Bool.and_eq_true]
  constructor
  · unfold okS at hok
    rw [Bool.and_eq_true] at hok
    exact hok.2
  · rw [List.all_eq_true]
    intro l hm
    obtain ⟨i, y, h1, h2, h3, rfl⟩ := mem_fixL.1 hm
    have h4 := (List.getElem?_eq_some_iff.1 h2).1
    have h5 := h.hr y (List.mem_of_getElem? h2)
    rw [h.hl] at h4
    unfold okL okI
    (try dsimp only)
    rw [decide_eq_true ⟨by omega, by omega⟩, decide_eq_true ⟨by omega, by omega⟩, decide_eq_true ⟨by omega, by omega, by omega, by omega, by omega⟩]; rfl
theorem pt_fx {N : Nat} {es : List GL} {ts : List Int} (hok : okS N es = true) (hl : es.length ≤ 7) (h : PT N ts) : fxR N es ts = true := by
  unfold fxR
  rw [pt_pok hok h, pt_ok hok hl h]; rfl
theorem pt_tiny {N : Nat} {ts : List Int} (h : PT N ts) : ∀ x ∈ gE (fixL ts), -100 ≤ x.c ∧ x.c ≤ 100 := by
  intro x hx
  obtain ⟨i, y, h1, h2, h3, h4⟩ := gE_fix hx
  have := h.hr y (List.mem_of_getElem? h2)
  rcases h4 with rfl | rfl
  · dsimp only; omega
  · dsimp only; omega

/-! ### The windows: exactly their times can be fixed -/

theorem win_cons {N : Nat} {es : List GL} (H : GW N es) {e : Nat} (he : e < N) {x : Int} (h0 : 0 ≤ x) (h45 : x ≤ 45) {ts : List Int} (hok : okS N (es ++ fixL ts) = true) (he0 : 0 < e) (hte : ts[e]? = some x) (hone : ∀ (i : Nat) (y : Int), 0 < i → ts[i]? = some y → y ≠ -1 → i = e) :
    consR N (es ++ fixL ts) = inI (wL N es e) (wH N es e) x := by
  obtain ⟨hb, hlo, hhi⟩ := gw_win H he
  have hrg := gw_rng H he
  obtain ⟨z1, z2⟩ := gw_zero H
  rw [hlo, hhi]
  have hoki : okI (-dBack N es e) (dTo N es e) = true := by unfold okI; exact decide_eq_true (by omega)
  unfold inI
  rw [hoki, Bool.true_and]
  have hm : (⟨0, e, x, x⟩ : GL) ∈ es ++ fixL ts := List.mem_append_right _ (mem_fixL.2 ⟨e, x, he0, hte, by omega, rfl⟩)
  by_cases hx : -dBack N es e ≤ x ∧ x ≤ dTo N es e
  · rw [decide_eq_true ⟨.inr hx.1, .inr hx.2⟩]
    have hE := gw_potE H
    have hL := gw_potL H
    refine pot_cons hok (g := fun v => min (dTo N es v) (-dBack N es v + (x + dBack N es e))) (pot_fix ?_ ?_ ?_)
    · rw [z1, z2]; omega
    · intro q hq
      have a := hE q hq
      have b := hL q hq
      dsimp only at a b ⊢
      omega
    · intro i y hi hy hn
      obtain rfl := hone i y hi hy hn
      rw [hte] at hy
      injection hy with hy
      (try dsimp only)
      omega
  · rw [decide_eq_false (by omega)]
    cases hc : consR N (es ++ fixL ts) with
    | false => rfl
    | true =>
      exfalso
      have hcl := (cons_iff hok).1 hc
      have eh := Wk.mem (gE_H hm (by dsimp only; omega))
      have el := Wk.mem (gE_L hm (by dsimp only; omega))
      dsimp only at eh el
      simp only [Int.toNat_natCast, Int.toNat_zero] at eh el
      have h2 := H.hN
      have w1 := (gw_to H he).1.more (fs := gE (fixL ts))
      have w2 := (gw_back H he).1.more (fs := gE (fixL ts))
      rw [← gE_append] at w1 w2
      have a := close_neg (okS_okG hok) hcl (by omega) (w1.append el)
      have b := close_neg (okS_okG hok) hcl (by omega) (eh.append w2)
      omega
/-- Everything open but event 0 and event e, which is at x. -/
def tsW (N e : Nat) (x : Int) : List Int := ((List.replicate N (-1 : Int)).set 0 0).set e x
theorem tsW_len (N e : Nat) (x : Int) : (tsW N e x).length = N := by unfold tsW; simp
theorem tsW_at {N e : Nat} {x : Int} (he : e < N) (he0 : 0 < e) (i : Nat) (hi : i < N) : (tsW N e x)[i]? = some (if i = e then x else if i = 0 then 0 else -1) := by
  unfold tsW
  rw [List.getElem?_set, List.getElem?_set]
  by_cases h1 : i = e
  · subst h1; simp [hi]
  · by_cases h2 : i = 0
    · subst h2; simp [h1, Ne.symm h1]; omega
    · rw [if_neg (Ne.symm h1), if_neg (Ne.symm h2), if_neg h1, if_neg h2]
      simp [List.getElem?_replicate, hi]
theorem tsW_pt {N e : Nat} {x : Int} (hN : 2 ≤ N) (he : e < N) (he0 : 0 < e) (h0 : 0 ≤ x) (h45 : x ≤ 45) : PT N (tsW N e x) := by
  refine ⟨tsW_len _ _ _, ?_, fun y hy => ?_⟩
  · rw [tsW_at he he0 0 (by omega), if_neg (by omega), if_pos rfl]
  · obtain ⟨j, hj, rfl⟩ := List.getElem_of_mem hy
    have := tsW_at (x := x) he he0 j (by rw [tsW_len] at hj; exact hj)
    rw [List.getElem?_eq_getElem hj] at this
    injection this with this
    rw [this]
    split
    · omega
    · split <;> omega
theorem tsW_one {N e : Nat} {x : Int} (he : e < N) (he0 : 0 < e) : ∀ (i : Nat) (y : Int), 0 < i → (tsW N e x)[i]? = some y → y ≠ -1 → i = e := by
  intro i y hi hy hn
  have hl : i < N := by have := (List.getElem?_eq_some_iff.1 hy).1; rwa [tsW_len] at this
  rw [tsW_at he he0 i hl] at hy
  injection hy with hy
  by_cases h : i = e
  · exact h
  · rw [if_neg h, if_neg (by omega)] at hy
    omega
theorem tsW_cnt {N e : Nat} {x : Int} (hN : 2 ≤ N) (hN5 : N ≤ 5) (he : e < N) (he0 : 0 < e) (hx : 0 ≤ x) : cntR (tsW N e x) = (N : Int) - 2 := by
  have hx1 : ¬ x = -1 := by omega
  have hs : N = 2 ∨ N = 3 ∨ N = 4 ∨ N = 5 := by omega
  have ht : e = 1 ∨ e = 2 ∨ e = 3 ∨ e = 4 := by omega
  rcases hs with rfl | rfl | rfl | rfl <;> rcases ht with rfl | rfl | rfl | rfl <;> first | omega | (simp [cntR, tsW, List.replicate, hx1])

/-! ### The completion: the earliest times -/

/-- The earliest times of a network. -/
def eaT (N : Nat) (ls : List GL) (i : Nat) : Int := -dBack N ls i
/-- The times when the events below j are completed. -/
def oJ (N : Nat) (ts : List Int) (E : Nat → Int) (j : Nat) : List Int := (List.range N).map (fun i => if i < j ∨ ts[i]?.getD 0 ≠ -1 then E i else -1)
theorem oJ_len (N : Nat) (ts : List Int) (E : Nat → Int) (j : Nat) : (oJ N ts E j).length = N := by unfold oJ; simp
theorem oJ_at {N : Nat} {ts : List Int} {E : Nat → Int} {j i : Nat} (hi : i < N) : (oJ N ts E j)[i]? = some (if i < j ∨ ts[i]?.getD 0 ≠ -1 then E i else -1) := by
  unfold oJ
  rw [List.getElem?_map, List.getElem?_range hi]; rfl
structure CT (N : Nat) (es : List GL) (ts : List Int) : Prop where
  hN : 2 ≤ N
  hN5 : N ≤ 5
  hl : es.length ≤ 7
  hd : DrS N es
  hok : okS N es = true
  pt : PT N ts
  hc : consR N (es ++ fixL ts) = true
theorem CT.gw {N : Nat} {es : List GL} {ts : List Int} (H : CT N es ts) : GW N (es ++ fixL ts) := gw_of H.hN H.hN5 H.hd (pt_ok H.hok H.hl H.pt) (pt_tiny H.pt) H.hc
/-- The earliest times keep the fixed ones. -/
theorem ct_fixed {N : Nat} {es : List GL} {ts : List Int} (H : CT N es ts) {i : Nat} {y : Int} (hy : ts[i]? = some y) (hn : y ≠ -1) : eaT N (es ++ fixL ts) i = y := by
  have G := H.gw
  have hr := H.pt.hr y (List.mem_of_getElem? hy)
  rcases Nat.eq_zero_or_pos i with h | h
  · subst h
    rw [H.pt.h0] at hy
    injection hy with hy
    unfold eaT; rw [(gw_zero G).1, ← hy]; rfl
  · exact pot_fixed (g := fun i => -dBack N (es ++ fixL ts) i) (by (try dsimp only); rw [(gw_zero G).1]; rfl) (gw_potE G) h hy hn (by omega) (by omega)
theorem ct_pt {N : Nat} {es : List GL} {ts : List Int} (H : CT N es ts) (j : Nat) : PT N (oJ N ts (eaT N (es ++ fixL ts)) j) := by
  have G := H.gw
  have h2 := H.hN
  refine ⟨oJ_len _ _ _ _, ?_, fun x hx => ?_⟩
  · rw [oJ_at (by omega), if_pos (.inr (by rw [H.pt.h0]; simp))]
    unfold eaT; rw [(gw_zero G).1]; rfl
  · unfold oJ at hx
    rw [List.mem_map] at hx
    obtain ⟨i, hi, rfl⟩ := hx
    have := gw_rng G (show i < N by simpa using hi)
    unfold eaT
    split <;> omega
/-- Numbers keep the network with the times of oJ fixed iff they keep it and are those. -/
theorem ct_potJ {N : Nat} {es : List GL} {ts : List Int} (H : CT N es ts) (j : Nat) : Pot (fun i => eaT N (es ++ fixL ts) i) (es ++ fixL (oJ N ts (eaT N (es ++ fixL ts)) j)) := by
  have G := H.gw
  refine pot_fix (by (try dsimp only); unfold eaT; rw [(gw_zero G).1]; rfl) (pot_left (gw_potE G)) (fun i y hi hy hn => ?_)
  have hl : i < N := by have := (List.getElem?_eq_some_iff.1 hy).1; rwa [oJ_len] at this
  rw [oJ_at hl] at hy
  injection hy with hy
  (try dsimp only)
  split at hy
  · exact hy
  · exact absurd hy.symm hn
theorem ct_gwJ {N : Nat} {es : List GL} {ts : List Int} (H : CT N es ts) (j : Nat) : GW N (es ++ fixL (oJ N ts (eaT N (es ++ fixL ts)) j)) :=
  gw_of H.hN H.hN5 H.hd (pt_ok H.hok H.hl (ct_pt H j)) (pt_tiny (ct_pt H j)) (pot_cons (pt_ok H.hok H.hl (ct_pt H j)) (ct_potJ H j))
/-- Fixing earliest times leaves the earliest times. -/
theorem ct_eq {N : Nat} {es : List GL} {ts : List Int} (H : CT N es ts) (j : Nat) {i : Nat} (hi : i < N) : eaT N (es ++ fixL (oJ N ts (eaT N (es ++ fixL ts)) j)) i = eaT N (es ++ fixL ts) i := by
  have G := H.gw
  have GJ := ct_gwJ H j
  have a := (gw_in GJ (ct_potJ H j) (by (try dsimp only); unfold eaT; rw [(gw_zero G).1]; rfl) hi).1
  have hp : Pot (fun i => -dBack N (es ++ fixL (oJ N ts (eaT N (es ++ fixL ts)) j)) i) (es ++ fixL ts) := by
    refine pot_fix (by (try dsimp only); rw [(gw_zero GJ).1]; rfl) (pot_left (gw_potE GJ)) (fun q y hq hy hn => ?_)
    have hl : q < N := by have := (List.getElem?_eq_some_iff.1 hy).1; rwa [H.pt.hl] at this
    have hr := H.pt.hr y (List.mem_of_getElem? hy)
    have ho : (oJ N ts (eaT N (es ++ fixL ts)) j)[q]? = some y := by
      rw [oJ_at hl, if_pos (.inr (by rw [hy]; exact hn)), ct_fixed H hy hn]
    exact pot_fixed (g := fun i => -dBack N (es ++ fixL (oJ N ts (eaT N (es ++ fixL ts)) j)) i) (by (try dsimp only); rw [(gw_zero GJ).1]; rfl) (gw_potE GJ) hq ho hn (by omega) (by omega)
  have b := (gw_in G hp (by (try dsimp only); rw [(gw_zero GJ).1]; rfl) hi).1
  unfold eaT at a b ⊢
  omega
theorem oJ_zero {N : Nat} {es : List GL} {ts : List Int} (H : CT N es ts) : oJ N ts (eaT N (es ++ fixL ts)) 0 = ts := by
  apply List.ext_getElem?
  intro i
  by_cases hi : i < N
  · rw [oJ_at hi]
    obtain ⟨y, hy⟩ : ∃ y, ts[i]? = some y := ⟨_, List.getElem?_eq_getElem (by rw [H.pt.hl]; exact hi)⟩
    rw [hy]
    by_cases hn : y = -1
    · rw [if_neg (by simp [hn]), hn]
    · rw [if_pos (.inr (by simpa using hn)), ct_fixed H hy hn]
  · rw [List.getElem?_eq_none (by rw [oJ_len]; omega), List.getElem?_eq_none (by rw [H.pt.hl]; omega)]
theorem oJ_keep {N : Nat} {ts : List Int} {E : Nat → Int} {j : Nat} (h : ts[j]?.getD 0 ≠ -1) : oJ N ts E (j + 1) = oJ N ts E j := by
  unfold oJ
  apply List.map_congr_left
  intro i _
  by_cases e : i = j
  · subst e; rw [if_pos (.inr h), if_pos (.inr h)]
  · by_cases hlt : i < j
    · rw [if_pos (.inl (by omega)), if_pos (.inl hlt)]
    · by_cases ht : ts[i]?.getD 0 ≠ -1
      · rw [if_pos (.inr ht), if_pos (.inr ht)]
      · rw [if_neg (by rintro (h1 | h1); omega; exact ht h1), if_neg (by rintro (h1 | h1); omega; exact ht h1)]
theorem oJ_set {N : Nat} {ts : List Int} {E : Nat → Int} {j : Nat} (hj : j < N) : (oJ N ts E j).set j (E j) = oJ N ts E (j + 1) := by
  apply List.ext_getElem?
  intro i
  by_cases hi : i < N
  · rw [List.getElem?_set, oJ_at hi, oJ_at hi, oJ_len]
    by_cases e : j = i
    · subst e; rw [if_pos rfl, if_pos hj, if_pos (.inl (by omega))]
    · rw [if_neg e]
      by_cases hlt : i < j
      · rw [if_pos (.inl hlt), if_pos (.inl (by omega))]
      · by_cases ht : ts[i]?.getD 0 ≠ -1
        · rw [if_pos (.inr ht), if_pos (.inr ht)]
        · rw [if_neg (by rintro (h1 | h1); omega; exact ht h1), if_neg (by rintro (h1 | h1); omega; exact ht h1)]
  · rw [List.getElem?_eq_none (by rw [List.length_set, oJ_len]; omega), List.getElem?_eq_none (by rw [oJ_len]; omega)]
theorem ct_step {N : Nat} {es : List GL} {ts : List Int} (H : CT N es ts) {j : Nat} (hj : j < N) : cpStep N es (oJ N ts (eaT N (es ++ fixL ts)) j) j = some (oJ N ts (eaT N (es ++ fixL ts)) (j + 1)) := by
  have G := H.gw
  have GJ := ct_gwJ H j
  have hrg := gw_rng G hj
  have hat := oJ_at (ts := ts) (E := eaT N (es ++ fixL ts)) (j := j) hj
  by_cases ho : ts[j]?.getD 0 ≠ -1
  · rw [oJ_keep ho]
    rw [if_pos (.inr ho)] at hat
    unfold cpStep
    rw [if_neg (by rw [hat]; unfold eaT; simp only [Option.getD_some]; omega)]
  · rw [if_neg (by rintro (h1 | h1); omega; exact ho h1)] at hat
    have hfx := pt_fx H.hok H.hl (ct_pt H j)
    obtain ⟨hb, hlo, _⟩ := gw_win GJ hj
    have he := ct_eq H j hj
    have hnl : ntL N es (oJ N ts (eaT N (es ++ fixL ts)) j) j = eaT N (es ++ fixL ts) j := by
      unfold ntL; rw [if_pos hfx, hlo, ← he]; rfl
    have hnb : ntB N es (oJ N ts (eaT N (es ++ fixL ts)) j) j = true := by unfold ntB; rw [hfx, hb]; rfl
    have hz : 0 ≤ eaT N (es ++ fixL ts) j ∧ eaT N (es ++ fixL ts) j ≤ 999999 := by unfold eaT; omega
    unfold cpStep
    rw [if_pos (by rw [hat]; rfl), hnl, if_pos (by rw [hnb, decide_eq_true hz.1, decide_eq_true hz.2]; rfl), oJ_set hj]
theorem ct_cp {N : Nat} {es : List GL} {ts : List Int} (H : CT N es ts) : ∀ {j : Nat}, j ≤ N → cpJ N es ts j = some (oJ N ts (eaT N (es ++ fixL ts)) j)
  | 0, _ => by rw [oJ_zero H]; rfl
  | j + 1, h => by
    unfold cpJ
    rw [ct_cp H (show j ≤ N by omega)]
    exact ct_step H (by omega)
theorem oJ_all {N : Nat} {ts : List Int} {E : Nat → Int} : oJ N ts E N = (List.range N).map E := by
  unfold oJ
  apply List.map_congr_left
  intro i hi
  rw [if_pos (.inl (by simpa using hi))]
/-- The completion is the earliest times. -/
theorem ct_all {N : Nat} {es : List GL} {ts : List Int} (H : CT N es ts) : cpR N es ts = ((List.range N).map (eaT N (es ++ fixL ts)), true) := by
  have hce : ceR N es ts = true := by unfold ceR; rw [pt_fx H.hok H.hl H.pt, H.hc]; rfl
  have h := ct_cp H (Nat.le_refl N)
  have hfx := pt_fx H.hok H.hl (ct_pt H N)
  rw [oJ_all] at h hfx
  unfold cpR
  rw [if_pos hce, H.pt.hl, h]
  (try dsimp only)
  rw [if_pos hfx]
theorem ct_sch {N : Nat} {es : List GL} {ts : List Int} (H : CT N es ts) : schR N es ((List.range N).map (eaT N (es ++ fixL ts))) = true := by
  have G := H.gw
  refine pot_sch H.hok (g := eaT N (es ++ fixL ts)) (by unfold eaT; rw [(gw_zero G).1]; rfl) (fun i hi => by have := gw_rng G hi; unfold eaT; omega) (pot_left (gw_potE G))
theorem ct_win {N : Nat} {es : List GL} {ts : List Int} (H : CT N es ts) {i : Nat} (hi : i < N) : ntB N es ts i = true ∧ inI (ntL N es ts i) (ntH N es ts i) (eaT N (es ++ fixL ts) i) = true := by
  have G := H.gw
  have hfx := pt_fx H.hok H.hl H.pt
  obtain ⟨hb, hlo, hhi⟩ := gw_win G hi
  have hrg := gw_rng G hi
  refine ⟨by unfold ntB; rw [hfx, hb]; rfl, ?_⟩
  unfold ntL ntH
  rw [if_pos hfx, if_pos hfx, hlo, hhi]
  unfold inI okI eaT
  rw [decide_eq_true ⟨by omega, by omega, by omega, by omega, by omega⟩, Bool.true_and]
  exact decide_eq_true ⟨.inr (by omega), .inr (by omega)⟩

end Go.Proofs.Yteppmlepbfjnpaa

