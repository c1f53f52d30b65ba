/-
  PLAIN: an event that is fixed at the least of its times leaves a consistent network consistent: what the completion of a partial schedule ends in.
-/
import Derived.Test.YteppmlepbfjnpaaBdPaC
import Derived.Test.YteppmlepbfjnpaaSmM
import Derived.Test.YteppmlepbfjnpaaBdSmW
namespace Go.Proofs.Yteppmlepbfjnpaa
set_option linter.unusedVariables false
set_option linter.unusedSimpArgs false

theorem mem_fixJ {ts : List Int} {l : GL} : ∀ {j : Nat}, l ∈ fixJ ts j ↔ ∃ (i : Nat) (y : Int), i < j ∧ 0 < i ∧ ts[i]? = some y ∧ y ≠ -1 ∧ l = ⟨0, i, y, y⟩
  | 0 => by simp [fixJ]
  | j + 1 => by
    unfold fixJ
    rw [List.mem_append, mem_fixJ]
    constructor
    · rintro (⟨i, y, h1, h2⟩ | h)
      · exact ⟨i, y, by omega, h2⟩
      · split at h
        · next x hx =>
          unfold fx1 at h
          split at h
          · next hc => exact ⟨j, x, by omega, hc.1, hx, hc.2, by simpa using h⟩
          · simp at h
        · simp at h
    · rintro ⟨i, y, h1, h2, h3, h4, h5⟩
      by_cases e : i = j
      · subst e
        right
        rw [h3]
        (try dsimp only)
        unfold fx1
        rw [if_pos ⟨h2, h4⟩]
        simpa using h5
      · exact .inl ⟨i, y, by omega, h2, h3, h4, h5⟩
theorem mem_fixL {ts : List Int} {l : GL} : l ∈ fixL ts ↔ ∃ (i : Nat) (y : Int), 0 < i ∧ ts[i]? = some y ∧ y ≠ -1 ∧ l = ⟨0, i, y, y⟩ := by
  unfold fixL
  rw [mem_fixJ]
  constructor
  · rintro ⟨i, y, _, h⟩; exact ⟨i, y, h⟩
  · rintro ⟨i, y, h1, h2, h⟩; exact ⟨i, y, (List.getElem?_eq_some_iff.1 h2).1, h1, h2, h⟩
theorem gE_fix {ts : List Int} {x : GE} (hx : x ∈ gE (fixL ts)) : ∃ (i : Nat) (y : Int), 0 < i ∧ ts[i]? = some y ∧ y ≠ -1 ∧ (x = ⟨0, i, y⟩ ∨ x = ⟨i, 0, -y⟩) := by
  obtain ⟨e, he, h⟩ := gE_of hx
  obtain ⟨i, y, h1, h2, h3, rfl⟩ := mem_fixL.1 he
  rcases h with ⟨_, h⟩ | ⟨_, h⟩
  · exact ⟨i, y, h1, h2, h3, .inl h⟩
  · exact ⟨i, y, h1, h2, h3, .inr h⟩

theorem cell_fin {N : Nat} {es : List GE} (hok : okG N es = true) (h : closeOk N es = true) {i k : Nat} (hi : i < N) (hk : k < N) {x : Int} (hx : atT N (closeC N es) i k = x) (h1 : -1000000 < x) (h2 : x < 1000000) : Wk es i k x ∧ ∀ y, Wk es i k y → x ≤ y := by
  rw [close_at N es hi hk] at hx
  have hf := closeOk_fin hok h hi
  unfold distE at hx
  cases hkn : (roundsE es (srcS i) N).1.kn k with
  | true =>
    rw [hkn, if_pos rfl] at hx
    have hw := hf.wk k hkn
    have he : (roundsE es (srcS i) N).1.nu k = x := by
      unfold clampI at hx
      split at hx <;> (repeat' split at hx) <;> omega
    rw [he] at hw
    exact ⟨hw, fun y hy => by have := (hf.min hy).2; omega⟩
  | false =>
    rw [hkn, if_neg (by simp)] at hx
    unfold clampI at hx
    (repeat' split at hx) <;> omega
/-- A walk of the network with one more edge, 0 to j, as heavy as the way back allows. -/
theorem fix_walk {es fs : List GE} {j : Nat} {lo : Int} (F1 : Wk es j 0 (-lo)) (F2 : ∀ y, Wk es j 0 y → -lo ≤ y) (hfs : ∀ x ∈ fs, x ∈ es ∨ (x.u.toNat = 0 ∧ x.v.toNat = j ∧ x.c = lo) ∨ (x.u.toNat = j ∧ x.v.toNat = 0 ∧ x.c = -lo)) {a b : Nat} {y : Int} (w : Wk fs a b y) :
    (∃ p, Wk es a b p ∧ p ≤ y) ∨ (∃ p q, Wk es a 0 p ∧ Wk es j b q ∧ p + lo + q ≤ y) := by
  induction w with
  | nil => exact .inl ⟨0, Wk.nil a, Int.le_refl _⟩
  | snoc q e _ he hu ih =>
    rcases hfs e (List.mem_of_getElem? he) with h | ⟨h1, h2, h3⟩ | ⟨h1, h2, h3⟩
    · have hw := Wk.mem h
      rw [hu] at hw
      rcases ih with ⟨p, wp, hp⟩ | ⟨p, r, wp, wr, hp⟩
      · exact .inl ⟨_, wp.append hw, by omega⟩
      · exact .inr ⟨p, _, wp, wr.append hw, by omega⟩
    · rw [h2]
      rw [h1] at hu
      subst hu
      rcases ih with ⟨p, wp, hp⟩ | ⟨p, r, wp, wr, hp⟩
      · exact .inr ⟨p, 0, wp, Wk.nil j, by omega⟩
      · have := F2 r wr
        exact .inr ⟨p, 0, wp, Wk.nil j, by omega⟩
    · rw [h2]
      rw [h1] at hu
      subst hu
      rcases ih with ⟨p, wp, hp⟩ | ⟨p, r, wp, wr, hp⟩
      · exact .inl ⟨_, wp.append F1, by omega⟩
      · exact .inr ⟨p, _, wp, wr.append F1, by omega⟩
theorem fix_cons {N : Nat} {ls ms : List GL} {j : Nat} {lo : Int} (hm : okS N ms = true) (hc : consR N ls = true) (hj : j < N) (hw : wB N ls j = true) (hl : wL N ls j = lo) (h0 : 0 ≤ lo) (h1 : lo ≤ 999999) (hms : ∀ l ∈ ms, l ∈ ls ∨ l = ⟨0, j, lo, lo⟩) : consR N ms = true := by
  have hok := consR_ok hc
  have hg := okS_okG hok
  have hcl := (cons_iff hok).1 hc
  have hN := (okS_rng hok).1
  have e1 : (closeR N (gE ls)).1 = N ∧ wTab N ls = closeC N (gE ls) := by unfold wTab; rw [closeR_yes hg hcl]; exact ⟨rfl, rfl⟩
  have hb := hw
  unfold wB at hb
  rw [hc, e1.1, e1.2, Bool.true_and] at hb
  have hl2 := hl
  unfold wL at hl2
  rw [if_pos hw, e1.1, e1.2] at hl2
  unfold winL wLo at hl2
  rw [if_pos hb] at hl2
  have hat : atT N (closeC N (gE ls)) j 0 = -lo := by
    have : (((N : Int).toNat = N) ∧ ((j : Int).toNat = j)) := ⟨by omega, by omega⟩
    rw [this.1, this.2] at hl2
    have h3 : ((0 : Int).toNat) = 0 := rfl
    rw [h3] at hl2
    omega
  obtain ⟨F1, F2⟩ := cell_fin hg hcl hj (k := 0) (by omega) hat (by omega) (by omega)
  rw [cons_iff hm]
  cases hcm : closeOk N (gE ms) with
  | true => rfl
  | false =>
    exfalso
    obtain ⟨x, y, w, hy, hx⟩ := not_close (okS_okG hm) hcm
    have hfs : ∀ x ∈ gE ms, x ∈ gE ls ∨ (x.u.toNat = 0 ∧ x.v.toNat = j ∧ x.c = lo) ∨ (x.u.toNat = j ∧ x.v.toNat = 0 ∧ x.c = -lo) := by
      intro q hq
      obtain ⟨e, he, h⟩ := gE_of hq
      rcases hms e he with h4 | rfl
      · left
        rcases h with ⟨h5, rfl⟩ | ⟨h5, rfl⟩
        · exact gE_H h4 h5
        · exact gE_L h4 h5
      · right
        rcases h with ⟨_, rfl⟩ | ⟨_, rfl⟩
        · left; exact ⟨rfl, by simp, rfl⟩
        · right; exact ⟨by simp, rfl, rfl⟩
    rcases fix_walk F1 F2 hfs w with ⟨p, wp, hp⟩ | ⟨p, q, wp, wq, hp⟩
    · have := close_neg hg hcl hx wp; omega
    · have := F2 _ (wq.append wp); omega
theorem ceR_step {n : Int} {es : List GL} {o : List Int} {j : Nat} (hce : ceR n es o = true) (hj : o[j]?.getD 0 = -1) (hb : ntB n es o j = true) (h0 : 0 ≤ ntL n es o j) (h1 : ntL n es o j ≤ 999999) (hf : fxR n es (o.set j (ntL n es o j)) = true) : ceR n es (o.set j (ntL n es o j)) = true := by
  unfold ceR
  rw [hf, Bool.true_and]
  unfold ceR at hce
  rw [Bool.and_eq_true] at hce
  obtain ⟨hfo, hco⟩ := hce
  have hp := pokR_ok (fxR_ok hfo).1
  have hr := okS_rng hp.1
  obtain ⟨N, rfl⟩ : ∃ N : Nat, n = N := ⟨n.toNat, by omega⟩
  have hjl : j < o.length := by
    by_cases h : j < o.length
    · exact h
    · rw [List.getElem?_eq_none (by omega)] at hj; simp at hj
  have hw : wB N (es ++ fixL o) j = true := by unfold ntB at hb; rw [hfo] at hb; simpa using hb
  have hl : wL N (es ++ fixL o) j = ntL N es o j := by unfold ntL; rw [if_pos hfo]
  refine fix_cons (fxR_ok hf).2 hco (j := j) (by omega) hw hl h0 h1 ?_
  intro l hm
  rcases List.mem_append.1 hm with h | h
  · exact .inl (List.mem_append_left _ h)
  · obtain ⟨i, y, h2, h3, h4, rfl⟩ := mem_fixL.1 h
    by_cases e : i = j
    · subst e
      rw [List.getElem?_set_self hjl] at h3
      injection h3 with h3
      subst h3
      exact .inr rfl
    · rw [List.getElem?_set_ne (fun h => e h.symm)] at h3
      exact .inl (List.mem_append_right _ (mem_fixL.2 ⟨i, y, h2, h3, h4, rfl⟩))
/-- What can be extended at the beginning can be extended as long as its times can be fixed. -/
theorem cp_cons {n : Int} {es : List GL} {ts : List Int} (h : ceR n es ts = true) : ∀ {j : Nat} {o : List Int}, cpJ n es ts j = some o → fxR n es o = true → ceR n es o = true
  | 0, o, hj, _ => by unfold cpJ at hj; injection hj with hj; rw [← hj]; exact h
  | j + 1, o, hj, hf => by
    cases hp : cpJ n es ts j with
    | none => unfold cpJ at hj; rw [hp] at hj; cases hj
    | some o1 =>
      rw [cpJ_next hp] at hj
      unfold cpStep at hj
      split at hj
      · next h1 =>
        split at hj
        · next h2 =>
          rw [Bool.and_eq_true, Bool.and_eq_true] at h2
          obtain ⟨⟨h3, h4⟩, h5⟩ := h2
          injection hj with hj
          subst hj
          have hfo : fxR n es o1 = true := by unfold ntB at h3; rw [Bool.and_eq_true] at h3; exact h3.1
          exact ceR_step (cp_cons h hp hfo) h1 h3 (of_decide_eq_true h4) (of_decide_eq_true h5) hf
        · cases hj
      · injection hj with hj
        subst hj
        exact cp_cons h hp hf
/-- What cannot be extended at the beginning is left as it is, or refused. -/
theorem cp_stuck {n : Int} {es : List GL} {ts : List Int} (h : ceR n es ts = false) : ∀ {j : Nat} {o : List Int}, cpJ n es ts j = some o → o = ts
  | 0, o, hj => by unfold cpJ at hj; injection hj with hj; exact hj.symm
  | j + 1, o, hj => by
    cases hp : cpJ n es ts j with
    | none => unfold cpJ at hj; rw [hp] at hj; cases hj
    | some o1 =>
      rw [cpJ_next hp] at hj
      have h1 := cp_stuck h hp
      subst h1
      unfold cpStep at hj
      split at hj
      · split at hj
        · next h2 =>
          exfalso
          rw [Bool.and_eq_true, Bool.and_eq_true] at h2
          have h3 := h2.1.1
          unfold ntB at h3
          rw [Bool.and_eq_true] at h3
          have h4 := h3.2
          unfold wB at h4
          rw [Bool.and_eq_true] at h4
          unfold ceR at h
          rw [h3.1, h4.1] at h
          simp at h
        · cases hj
      · injection hj with hj
        exact hj.symm
theorem cp_end {n : Int} {es : List GL} {ts o : List Int} (h : cpJ n es ts ts.length = some o) : cpR n es ts = if ceR n es o then (o, true) else ([], false) := by
  cases hc : ceR n es ts with
  | false =>
    have := cp_stuck hc h
    subst this
    rw [cpR_no hc, hc]; rfl
  | true =>
    cases hf : fxR n es o with
    | true => rw [cpR_good hc h hf, cp_cons hc h hf]; rfl
    | false =>
      have : ceR n es o = false := by unfold ceR; rw [hf]; rfl
      rw [cpR_bad hc h hf, this]; rfl
theorem cp_stop {n : Int} {es : List GL} {ts : List Int} (h : cpJ n es ts ts.length = none) : cpR n es ts = ([], false) := by
  cases hc : ceR n es ts with
  | false => exact cpR_no hc
  | true => exact cpR_none hc h
theorem ntL_low {n : Int} {es : List GL} {o : List Int} {v : Int} (h : ntB n es o v = true) : ntL n es o v ≤ 999999 := by
  unfold ntB at h
  rw [Bool.and_eq_true] at h
  unfold ntL
  rw [if_pos h.1]
  have := okI_of (wB_okI h.2)
  omega

end Go.Proofs.Yteppmlepbfjnpaa

