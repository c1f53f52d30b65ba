/-
  THE ROUNDS OVER THE EDGES, AS FUNCTIONS: what a round changes; once a round changes nothing, none does; the way back along last edges ends in a cycle.
-/
import Derived.Test.YtdjaiijgdflopaaGrC
namespace Go.Proofs.Ytdjaiijgdflopaa
open Go.RowKit
set_option linter.unusedVariables false
set_option linter.unusedSimpArgs false

structure St where
  kn : Nat → Bool
  nu : Nat → Int
  la : Nat → Int
def upf {α : Type} (f : Nat → α) (i : Nat) (x : α) : Nat → α := fun j => if j = i then x else f j
def sumE (s : St) (e : GE) : Int := wrap64 (s.nu e.u.toNat + e.c)
def lowE (s : St) (e : GE) : Bool := s.kn e.u.toNat && (!s.kn e.v.toNat || decide (sumE s e < s.nu e.v.toNat))
def updE (s : St) (i : Nat) (e : GE) : St := ⟨upf s.kn e.v.toNat true, upf s.nu e.v.toNat (sumE s e), upf s.la e.v.toNat (i : Int)⟩
def passTo (es : List GE) (s : St) : Nat → St × Int
  | 0 => (s, -1)
  | i + 1 => match es[i]? with
    | some e => if lowE (passTo es s i).1 e = true then (updE (passTo es s i).1 i e, (i : Int)) else passTo es s i
    | none => passTo es s i
def roundsE (es : List GE) (s : St) : Nat → St × Int
  | 0 => (s, -1)
  | r + 1 => passTo es (roundsE es s r).1 es.length

theorem pass_low {es : List GE} {s : St} {i : Nat} {e : GE} (he : es[i]? = some e) (hl : lowE (passTo es s i).1 e = true) : passTo es s (i + 1) = (updE (passTo es s i).1 i e, (i : Int)) := by
  conv => lhs; unfold passTo
  simp only [he, hl, if_true]
theorem pass_not {es : List GE} {s : St} {i : Nat} {e : GE} (he : es[i]? = some e) (hl : lowE (passTo es s i).1 e = false) : passTo es s (i + 1) = passTo es s i := by
  conv => lhs; unfold passTo
  simp [he, hl]

theorem pass_still (es : List GE) (s : St) : ∀ i, (passTo es s i).2 = -1 → (passTo es s i).1 = s := by
  intro i
  induction i with
  | zero => intro _; rfl
  | succ i ih =>
    cases he : es[i]? with
    | none =>
      have : passTo es s (i + 1) = passTo es s i := by conv => lhs; unfold passTo
                                                       simp [he]
      rw [this]; exact ih
    | some e =>
      cases hl : lowE (passTo es s i).1 e with
      | true => rw [pass_low he hl]; intro h; have h2 : (i : Int) = -1 := h; omega
      | false => rw [pass_not he hl]; exact ih
theorem pass_rng (es : List GE) (s : St) : ∀ i, (passTo es s i).2 = -1 ∨ ∃ (j : Nat) (e : GE), (passTo es s i).2 = (j : Int) ∧ j < i ∧ es[j]? = some e := by
  intro i
  induction i with
  | zero => exact .inl rfl
  | succ i ih =>
    cases he : es[i]? with
    | none =>
      have : passTo es s (i + 1) = passTo es s i := by conv => lhs; unfold passTo
                                                       simp [he]
      rw [this]
      rcases ih with h | ⟨j, e, h1, h2, h3⟩
      · exact .inl h
      · exact .inr ⟨j, e, h1, by omega, h3⟩
    | some e =>
      cases hl : lowE (passTo es s i).1 e with
      | true => rw [pass_low he hl]; exact .inr ⟨i, e, rfl, by omega, he⟩
      | false =>
        rw [pass_not he hl]
        rcases ih with h | ⟨j, e, h1, h2, h3⟩
        · exact .inl h
        · exact .inr ⟨j, e, h1, by omega, h3⟩
theorem rounds_step (es : List GE) (s : St) (r : Nat) (h : (roundsE es s (r + 1)).2 = -1) : roundsE es s (r + 2) = roundsE es s (r + 1) := by
  have h1 : (roundsE es s (r + 1)).1 = (roundsE es s r).1 := pass_still es _ _ h
  show passTo es (roundsE es s (r + 1)).1 es.length = _
  rw [h1]; rfl
theorem rounds_still (es : List GE) (s : St) (r : Nat) (h : (roundsE es s (r + 1)).2 = -1) : ∀ k, roundsE es s (r + 1 + k) = roundsE es s (r + 1) := by
  intro k
  induction k with
  | zero => rfl
  | succ k ih =>
    have h2 : (roundsE es s (r + k + 1)).2 = -1 := by rw [show r + k + 1 = r + 1 + k from by omega, ih]; exact h
    have := rounds_step es s (r + k) h2
    rw [show r + 1 + (k + 1) = r + k + 2 from by omega, this, show r + k + 1 = r + 1 + k from by omega, ih]
theorem rounds_rng (es : List GE) (s : St) (r : Nat) : (roundsE es s r).2 = -1 ∨ ∃ (j : Nat) (e : GE), (roundsE es s r).2 = (j : Int) ∧ es[j]? = some e := by
  match r with
  | 0 => exact .inl rfl
  | r + 1 =>
    rcases pass_rng es (roundsE es s r).1 es.length with h | ⟨j, e, h1, _, h3⟩
    · exact .inl h
    · exact .inr ⟨j, e, h1, h3⟩

/-! ### The way back -/

/-- What the rounds have done, by edge i of round r, to two states that differ in their first last edges alone: t tells in which round a node was changed last. -/
structure Way (es : List GE) (n r i : Nat) (s s' : St) (t : Nat → Nat) : Prop where
  kn : ∀ v, v < n → s.kn v = true
  skn : s'.kn = s.kn
  snu : s'.nu = s.nu
  le : ∀ v, t v ≤ r
  la : ∀ v, 1 ≤ t v → ∃ (j : Nat) (e : GE), s.la v = (j : Int) ∧ s'.la v = (j : Int) ∧ es[j]? = some e ∧ e.v.toNat = v ∧ t v ≤ t e.u.toNat + 1
  ex : ∀ (j : Nat) (e : GE), es[j]? = some e → ¬ (sumE s e < s.nu e.v.toNat) ∨ (if j < i then r ≤ t e.u.toNat else r ≤ t e.u.toNat + 1)

theorem Way.low {es : List GE} {n r i : Nat} {s s' : St} {t : Nat → Nat} (w : Way es n r i s s' t) {e : GE} (hu : e.u.toNat < n) (hv : e.v.toNat < n) : lowE s e = decide (sumE s e < s.nu e.v.toNat) := by
  unfold lowE; rw [w.kn _ hu, w.kn _ hv]; rfl
theorem Way.sum {es : List GE} {n r i : Nat} {s s' : St} {t : Nat → Nat} (w : Way es n r i s s' t) (e : GE) : sumE s' e = sumE s e := by unfold sumE; rw [w.snu]
theorem Way.low' {es : List GE} {n r i : Nat} {s s' : St} {t : Nat → Nat} (w : Way es n r i s s' t) (e : GE) : lowE s' e = lowE s e := by unfold lowE; rw [w.skn, w.snu, w.sum]

theorem Way.step {es : List GE} {n r i : Nat} {s s' : St} {t : Nat → Nat} (w : Way es n r i s s' t) (hes : ∀ (j : Nat) (e : GE), es[j]? = some e → e.u.toNat < n ∧ e.v.toNat < n) {e : GE} (he : es[i]? = some e) :
    (lowE s e = true → Way es n r (i + 1) (updE s i e) (updE s' i e) (upf t e.v.toNat r)) ∧ (lowE s e = false → Way es n r (i + 1) s s' t) := by
  obtain ⟨hu, hv⟩ := hes i e he
  constructor
  · intro hl
    have hlt : sumE s e < s.nu e.v.toNat := by rw [w.low hu hv] at hl; exact of_decide_eq_true hl
    have hri : r ≤ t e.u.toNat + 1 := by
      rcases w.ex i e he with h | h
      · exact absurd hlt h
      · rw [if_neg (by omega)] at h; exact h
    have hmono : ∀ v, t v ≤ upf t e.v.toNat r v := by
      intro v; unfold upf; split
      · exact w.le v
      · exact Nat.le_refl _
    refine ⟨?_, ?_, ?_, ?_, ?_, ?_⟩
    · intro v hv'
      show upf s.kn _ _ v = true
      unfold upf; split
      · rfl
      · exact w.kn v hv'
    · show upf s'.kn _ _ = upf s.kn _ _; rw [w.skn]
    · show upf s'.nu _ _ = upf s.nu _ _; rw [w.snu, w.sum]
    · intro v; unfold upf; split
      · exact Nat.le_refl _
      · exact w.le v
    · intro v hv1
      by_cases hve : v = e.v.toNat
      · subst hve
        refine ⟨i, e, by show upf s.la _ _ _ = _; simp [upf], by show upf s'.la _ _ _ = _; simp [upf], he, rfl, ?_⟩
        have h1 : upf t e.v.toNat r e.v.toNat = r := by simp [upf]
        have := hmono e.u.toNat
        omega
      · have h1 : upf t e.v.toNat r v = t v := by simp [upf, hve]
        rw [h1] at hv1 ⊢
        obtain ⟨j, e', a1, a2, a3, a4, a5⟩ := w.la v hv1
        refine ⟨j, e', by show upf s.la _ _ _ = _; simp [upf, hve, a1], by show upf s'.la _ _ _ = _; simp [upf, hve, a2], a3, a4, ?_⟩
        have := hmono e'.u.toNat
        omega
    · intro j e' he'
      by_cases hue : e'.u.toNat = e.v.toNat
      · right
        have : upf t e.v.toNat r e'.u.toNat = r := by rw [hue]; simp [upf]
        rw [this]; split <;> omega
      · have hs' : sumE (updE s i e) e' = sumE s e' := by
          show wrap64 (upf s.nu _ _ _ + _) = wrap64 _
          simp [upf, hue]
        have ht' : upf t e.v.toNat r e'.u.toNat = t e'.u.toNat := by simp [upf, hue]
        rw [hs', ht']
        have hn' : (updE s i e).nu e'.v.toNat = if e'.v.toNat = e.v.toNat then sumE s e else s.nu e'.v.toNat := rfl
        rw [hn']
        by_cases hji : j = i
        · subst hji
          have : e' = e := by rw [he] at he'; exact (Option.some.inj he').symm
          subst this
          left; rw [if_pos rfl]; omega
        · rcases w.ex j e' he' with h | h
          · left
            split
            · next hvv => rw [hvv] at h; omega
            · exact h
          · right
            by_cases hlt2 : j < i
            · rw [if_pos hlt2] at h; rw [if_pos (by omega)]; exact h
            · rw [if_neg hlt2] at h; rw [if_neg (by omega)]; exact h
  · intro hl
    have hnl : ¬ (sumE s e < s.nu e.v.toNat) := by rw [w.low hu hv] at hl; exact of_decide_eq_false hl
    refine ⟨w.kn, w.skn, w.snu, w.le, w.la, fun j e' he' => ?_⟩
    by_cases hji : j = i
    · subst hji
      have : e' = e := by rw [he] at he'; exact (Option.some.inj he').symm
      subst this
      exact .inl hnl
    · rcases w.ex j e' he' with h | h
      · exact .inl h
      · right
        by_cases hlt2 : j < i
        · rw [if_pos hlt2] at h; rw [if_pos (by omega)]; exact h
        · rw [if_neg hlt2] at h; rw [if_neg (by omega)]; exact h

theorem Way.pass {es : List GE} {n r : Nat} {s s' : St} {t : Nat → Nat} (w : Way es n r 0 s s' t) (hes : ∀ (j : Nat) (e : GE), es[j]? = some e → e.u.toNat < n ∧ e.v.toNat < n) :
    ∀ i, i ≤ es.length → ∃ t', Way es n r i (passTo es s i).1 (passTo es s' i).1 t' ∧ (passTo es s' i).2 = (passTo es s i).2 ∧ (∀ (j : Nat) (e : GE), (passTo es s i).2 = (j : Int) → es[j]? = some e → t' e.v.toNat = r) := by
  intro i
  induction i with
  | zero => exact fun _ => ⟨t, w, rfl, fun j e h _ => by have h2 : (-1 : Int) = (j : Int) := h; omega⟩
  | succ i ih =>
    intro hi
    obtain ⟨t', w', h1, h2⟩ := ih (by omega)
    obtain ⟨e, he⟩ : ∃ e, es[i]? = some e := ⟨_, List.getElem?_eq_getElem (by omega)⟩
    have hst := w'.step hes he
    cases hl : lowE (passTo es s i).1 e with
    | true =>
      have hl' : lowE (passTo es s' i).1 e = true := by rw [w'.low', hl]
      rw [pass_low he hl, pass_low he hl']
      refine ⟨_, hst.1 hl, rfl, fun j e' h hj => ?_⟩
      have hij : i = j := by have h3 : (i : Int) = (j : Int) := h; omega
      subst hij
      have : e' = e := by rw [he] at hj; exact (Option.some.inj hj).symm
      subst this
      simp [upf]
    | false =>
      have hl' : lowE (passTo es s' i).1 e = false := by rw [w'.low', hl]
      rw [pass_not he hl, pass_not he hl']
      exact ⟨t', hst.2 hl, h1, h2⟩

theorem Way.next {es : List GE} {n r : Nat} {s s' : St} {t : Nat → Nat} (w : Way es n r es.length s s' t) : Way es n (r + 1) 0 s s' t := by
  refine ⟨w.kn, w.skn, w.snu, fun v => Nat.le_succ_of_le (w.le v), w.la, fun j e he => ?_⟩
  rcases w.ex j e he with h | h
  · exact .inl h
  · right
    have : j < es.length := (List.getElem?_eq_some_iff.1 he).1
    rw [if_pos this] at h
    rw [if_neg (by omega)]; omega

theorem Way.rounds {es : List GE} {n : Nat} {s s' : St} (hes : ∀ (j : Nat) (e : GE), es[j]? = some e → e.u.toNat < n ∧ e.v.toNat < n) (hk : ∀ v, v < n → s.kn v = true) (hk' : s'.kn = s.kn) (hn' : s'.nu = s.nu) :
    ∀ r, ∃ t, Way es n (r + 1) 0 (roundsE es s r).1 (roundsE es s' r).1 t ∧ (roundsE es s' r).2 = (roundsE es s r).2 ∧ (∀ (j : Nat) (e : GE), (roundsE es s r).2 = (j : Int) → es[j]? = some e → t e.v.toNat = r) := by
  intro r
  induction r with
  | zero =>
    refine ⟨fun _ => 0, ⟨hk, hk', hn', fun v => Nat.zero_le _, fun v h => by omega, fun j e he => .inr (by rw [if_neg (by omega)]; omega)⟩, rfl, fun j e h _ => ?_⟩
    have h2 : (-1 : Int) = (j : Int) := h
    omega
  | succ r ih =>
    obtain ⟨t, w, h1, h2⟩ := ih
    obtain ⟨t', w', h3, h4⟩ := w.pass hes es.length (Nat.le_refl _)
    exact ⟨t', w'.next, h3, h4⟩

theorem pigeon : ∀ (n : Nat) (f : Nat → Nat), (∀ k, k ≤ n → f k < n) → ∃ i j, i < j ∧ j ≤ n ∧ f i = f j := by
  intro n
  induction n with
  | zero => intro f h; have := h 0 (Nat.le_refl _); omega
  | succ n ih =>
    intro f h
    by_cases hx : ∃ k, k ≤ n ∧ f k = f (n + 1)
    · obtain ⟨k, h1, h2⟩ := hx
      exact ⟨k, n + 1, by omega, by omega, h2⟩
    · have hne : ∀ k, k ≤ n → f k ≠ f (n + 1) := fun k hk e => hx ⟨k, hk, e⟩
      have hc := h (n + 1) (Nat.le_refl _)
      obtain ⟨i, j, h1, h2, h3⟩ := ih (fun k => if f (n + 1) < f k then f k - 1 else f k) (fun k hk => by
        have a := h k (by omega)
        have b := hne k hk
        by_cases hfk : f (n + 1) < f k
        · have e1 : (if f (n + 1) < f k then f k - 1 else f k) = f k - 1 := if_pos hfk
          show (if f (n + 1) < f k then f k - 1 else f k) < n
          rw [e1]; omega
        · have e1 : (if f (n + 1) < f k then f k - 1 else f k) = f k := if_neg hfk
          show (if f (n + 1) < f k then f k - 1 else f k) < n
          rw [e1]; omega)
      refine ⟨i, j, h1, by omega, ?_⟩
      have a := hne i (by omega)
      have b := hne j (by omega)
      split at h3 <;> split at h3 <;> omega

def nxE (es : List GE) (la : Nat → Int) (v : Nat) : Nat := (edE es (la v)).u.toNat
def itE (es : List GE) (la : Nat → Int) (v : Nat) : Nat → Nat
  | 0 => v
  | k + 1 => nxE es la (itE es la v k)
theorem itE_add (es : List GE) (la : Nat → Int) (v a b : Nat) : itE es la v (a + b) = itE es la (itE es la v a) b := by
  induction b with
  | zero => rfl
  | succ b ih => show nxE es la (itE es la v (a + b)) = nxE es la _; rw [ih]

/-- On the way back from the node that was changed in the last round every node has a last edge, the same one in both states; and the node that is reached by as many steps as there are nodes lies on a cycle. -/
theorem Way.back {es : List GE} {n r i : Nat} {s s' : St} {t : Nat → Nat} (w : Way es n r i s s' t) (hes : ∀ (j : Nat) (e : GE), es[j]? = some e → e.u.toNat < n ∧ e.v.toNat < n) {v : Nat} (hv : v < n) (ht : n ≤ t v) :
    (∀ k, itE es s.la v k < n ∧ ∃ (j : Nat) (e : GE), s.la (itE es s.la v k) = (j : Int) ∧ s'.la (itE es s.la v k) = (j : Int) ∧ es[j]? = some e) ∧
    (∃ p, 0 < p ∧ p ≤ n ∧ itE es s.la (itE es s.la v n) p = itE es s.la v n) := by
  have hk : ∀ k, k ≤ n → itE es s.la v k < n ∧ n ≤ t (itE es s.la v k) + k := by
    intro k
    induction k with
    | zero => exact fun _ => ⟨hv, ht⟩
    | succ k ih =>
      intro hkn
      obtain ⟨h1, h2⟩ := ih (by omega)
      obtain ⟨j, e, a1, a2, a3, a4, a5⟩ := w.la (itE es s.la v k) (by omega)
      have hx : itE es s.la v (k + 1) = e.u.toNat := by
        show nxE es s.la _ = _
        unfold nxE; rw [a1, edE_at es a3]
      rw [hx]
      exact ⟨(hes j e a3).1, by omega⟩
  obtain ⟨a, b, hab, hbn, hf⟩ := pigeon n (itE es s.la v) (fun k h => (hk k h).1)
  have hper : ∀ m, itE es s.la v (a + m + (b - a)) = itE es s.la v (a + m) := by
    intro m
    rw [show a + m + (b - a) = b + m from by omega, itE_add, itE_add, hf]
  have hall : ∀ k, ∃ k', k' < n ∧ itE es s.la v k = itE es s.la v k' := by
    intro k
    induction k using Nat.strongRecOn with
    | _ k ih =>
      by_cases hkb : k < b
      · exact ⟨k, by omega, rfl⟩
      · have hp := hper (k - b)
        rw [show a + (k - b) + (b - a) = k from by omega] at hp
        obtain ⟨k', h1, h2⟩ := ih (a + (k - b)) (by omega)
        exact ⟨k', h1, hp.trans h2⟩
  constructor
  · intro k
    obtain ⟨k', h1, h2⟩ := hall k
    rw [h2]
    obtain ⟨h3, h4⟩ := hk k' (by omega)
    obtain ⟨j, e, a1, a2, a3, _⟩ := w.la (itE es s.la v k') (by omega)
    exact ⟨h3, j, e, a1, a2, a3⟩
  · refine ⟨b - a, by omega, by omega, ?_⟩
    rw [← itE_add]
    have := hper (n - a)
    rw [show a + (n - a) = n from by omega] at this
    exact this

theorem least_of {P : Nat → Prop} : ∀ p, P p → ∃ q, q ≤ p ∧ P q ∧ ∀ k, k < q → ¬ P k := by
  intro p
  induction p using Nat.strongRecOn with
  | _ p ih =>
    intro hp
    by_cases h : ∃ k, k < p ∧ P k
    · obtain ⟨k, h1, h2⟩ := h
      obtain ⟨q, a, b, c⟩ := ih k h1 h2
      exact ⟨q, by omega, b, c⟩
    · exact ⟨p, Nat.le_refl _, hp, fun k hk hP => h ⟨k, hk, hP⟩⟩

/-- The last edges of m steps back. -/
def backE (es : List GE) (la : Nat → Int) (v m : Nat) : List Int := (List.range m).map fun k => la (itE es la v k)
theorem backE_succ (es : List GE) (la : Nat → Int) (v m : Nat) : backE es la v (m + 1) = backE es la v m ++ [la (itE es la v m)] := by
  simp [backE, List.range_succ]
theorem itE_same {es : List GE} {la la' : Nat → Int} {v : Nat} (h : ∀ k, la' (itE es la v k) = la (itE es la v k)) : ∀ k, itE es la' v k = itE es la v k := by
  intro k
  induction k with
  | zero => rfl
  | succ k ih => show nxE es la' _ = nxE es la _; rw [ih]; unfold nxE; rw [h k]

end Go.Proofs.Ytdjaiijgdflopaa
