/-
  WALKS of spec.IsNegativeCycle, isClosedWalk and impl.IsNegativeCycle.
  THE ROUNDS OVER THE EDGES, AS FUNCTIONS: what a round changes; once a round changes nothing, none does; the way back along last edges ends in a cycle.
  ROWS OF CELLS IN ONE BLOCK, BY A FUNCTION OF THE INDEX: what a new block, a draw, a store do to them; the state of the rounds in memory, in the model's three slices and in the program's one struct.
  WALK of impl's lower: one edge.
  THE ITERATOR OVER THE ROUNDS: rounds, rounds$1: as many rounds as the graph has nodes, each is handed the edges.
  WALK of spec.l03Round: one round over the edges.
-/
import Derived.Test.YteppmlepbfjnpaaBdGrN
import Derived.Deep.RegionHeld3
import Derived.Deep.RegionWith
import Derived.BigRegion
import Derived.RegionTactic
import Derived.RangeFuncNested
import Derived.RangeFuncBound
import Derived.RangeFuncCalls
import Derived.RangeFuncLeaves
import Derived.Shelf.Abstract
import Derived.Shelf.RegionOpen
import Derived.WalkKit
import Derived.OwnWalkIn
import Derived.TacticsInMore
import Derived.LoopNIn
import Derived.LoopIn
namespace Go.Proofs.Yteppmlepbfjnpaa
open Go.RowKit
set_option linter.unusedVariables false
set_option linter.unusedSimpArgs false

def inE (es : List GE) (z : Int) : Bool := decide (0 ≤ z ∧ z < es.length)
def edE (es : List GE) (z : Int) : GE := (es[z.toNat]?).getD ⟨0, 0, 0⟩
def linkE (es : List GE) (zs : List Int) (j : Nat) : Bool :=
  match zs[j]?, zs[(j + zs.length - 1) % zs.length]? with
  | some z, some b => inE es z && inE es b && decide ((edE es b).v = (edE es z).u)
  | _, _ => false
def closedTo (es : List GE) (zs : List Int) : Nat → Bool
  | 0 => true
  | j + 1 => closedTo es zs j && linkE es zs j
theorem closedTo_not (es : List GE) (zs : List Int) {j : Nat} (h : linkE es zs j = false) : ∀ m, j < m → closedTo es zs m = false := by
  intro m hm
  induction m with
  | zero => omega
  | succ m ih =>
    unfold closedTo
    by_cases he : j = m
    · subst he; rw [h, Bool.and_false]
    · rw [ih (by omega), Bool.false_and]
theorem closedTo_next (es : List GE) (zs : List Int) {j : Nat} (h : linkE es zs j = true) (hj : closedTo es zs j = true) : closedTo es zs (j + 1) = true := by
  unfold closedTo; rw [h, hj]; rfl
def negC (n : Int) (es : List GE) (zs : List Int) : Bool := okG n es && decide (0 < zs.length) && closedTo es zs zs.length && decide (sumTo es zs zs.length < 0)

theorem link_eq (es : List GE) (zs : List Int) {j m : Nat} {z b : Int} (hm : zs.length = m) (hz : zs[j]? = some z) (hb : zs[(j + m - 1) % m]? = some b) :
    linkE es zs j = (inE es z && inE es b && decide ((edE es b).v = (edE es z).u)) := by
  subst hm
  unfold linkE; rw [hz, hb]
theorem edE_at (es : List GE) {q : Nat} {x : GE} (h : es[q]? = some x) : edE es (q : Int) = x := by simp [edE, h]

end Go.Proofs.Yteppmlepbfjnpaa

namespace Go.Proofs.Yteppmlepbfjnpaa
open Go.RowKit
set_option linter.unusedVariables false
set_option linter.unusedSimpArgs false

structure St where
  kn : Nat → Bool
  nu : Nat → Int
  la : Nat → Int
def upf {α : Type} (f : Nat → α) (i : Nat) (x : α) : Nat → α := fun j => if j = i then x else f j
def sumE (s : St) (e : GE) : Int := wrap64 (s.nu e.u.toNat + e.c)
def lowE (s : St) (e : GE) : Bool := s.kn e.u.toNat && (!s.kn e.v.toNat || decide (sumE s e < s.nu e.v.toNat))
def updE (s : St) (i : Nat) (e : GE) : St := ⟨upf s.kn e.v.toNat true, upf s.nu e.v.toNat (sumE s e), upf s.la e.v.toNat (i : Int)⟩
def passTo (es : List GE) (s : St) : Nat → St × Int
  | 0 => (s, -1)
  | i + 1 => match es[i]? with
    | some e => if lowE (passTo es s i).1 e = true then (updE (passTo es s i).1 i e, (i : Int)) else passTo es s i
    | none => passTo es s i
def roundsE (es : List GE) (s : St) : Nat → St × Int
  | 0 => (s, -1)
  | r + 1 => passTo es (roundsE es s r).1 es.length

theorem pass_low {es : List GE} {s : St} {i : Nat} {e : GE} (he : es[i]? = some e) (hl : lowE (passTo es s i).1 e = true) : passTo es s (i + 1) = (updE (passTo es s i).1 i e, (i : Int)) := by
  conv => lhs; unfold passTo
  simp only [he, hl, if_true]
theorem pass_not {es : List GE} {s : St} {i : Nat} {e : GE} (he : es[i]? = some e) (hl : lowE (passTo es s i).1 e = false) : passTo es s (i + 1) = passTo es s i := by
  conv => lhs; unfold passTo
  simp [he, hl]

theorem pass_still (es : List GE) (s : St) : ∀ i, (passTo es s i).2 = -1 → (passTo es s i).1 = s := by
  intro i
  induction i with
  | zero => intro _; rfl
  | succ i ih =>
    cases he : es[i]? with
    | none =>
      have : passTo es s (i + 1) = passTo es s i := by conv => lhs; unfold passTo
                                                       simp [he]
      rw [this]; exact ih
    | some e =>
      cases hl : lowE (passTo es s i).1 e with
      | true => rw [pass_low he hl]; intro h; have h2 : (i : Int) = -1 := h; omega
      | false => rw [pass_not he hl]; exact ih
theorem pass_rng (es : List GE) (s : St) : ∀ i, (passTo es s i).2 = -1 ∨ ∃ (j : Nat) (e : GE), (passTo es s i).2 = (j : Int) ∧ j < i ∧ es[j]? = some e := by
  intro i
  induction i with
  | zero => exact .inl rfl
  | succ i ih =>
    cases he : es[i]? with
    | none =>
      have : passTo es s (i + 1) = passTo es s i := by conv => lhs; unfold passTo
                                                       simp [he]
      rw [this]
      rcases ih with h | ⟨j, e, h1, h2, h3⟩
      · exact .inl h
      · exact .inr ⟨j, e, h1, by omega, h3⟩
    | some e =>
      cases hl : lowE (passTo es s i).1 e with
      | true => rw [pass_low he hl]; exact .inr ⟨i, e, rfl, by omega, he⟩
      | false =>
        rw [pass_not he hl]
        rcases ih with h | ⟨j, e, h1, h2, h3⟩
        · exact .inl h
        · exact .inr ⟨j, e, h1, by omega, h3⟩
theorem rounds_step (es : List GE) (s : St) (r : Nat) (h : (roundsE es s (r + 1)).2 = -1) : roundsE es s (r + 2) = roundsE es s (r + 1) := by
  have h1 : (roundsE es s (r + 1)).1 = (roundsE es s r).1 := pass_still es _ _ h
  show passTo es (roundsE es s (r + 1)).1 es.length = _
  rw [h1]; rfl
theorem rounds_still (es : List GE) (s : St) (r : Nat) (h : (roundsE es s (r + 1)).2 = -1) : ∀ k, roundsE es s (r + 1 + k) = roundsE es s (r + 1) := by
  intro k
  induction k with
  | zero => rfl
  | succ k ih =>
    have h2 : (roundsE es s (r + k + 1)).2 = -1 := by rw [show r + k + 1 = r + 1 + k from by omega, ih]; exact h
    have := rounds_step es s (r + k) h2
    rw [show r + 1 + (k + 1) = r + k + 2 from by omega, this, show r + k + 1 = r + 1 + k from by omega, ih]
theorem rounds_rng (es : List GE) (s : St) (r : Nat) : (roundsE es s r).2 = -1 ∨ ∃ (j : Nat) (e : GE), (roundsE es s r).2 = (j : Int) ∧ es[j]? = some e := by
  match r with
  | 0 => exact .inl rfl
  | r + 1 =>
    rcases pass_rng es (roundsE es s r).1 es.length with h | ⟨j, e, h1, _, h3⟩
    · exact .inl h
    · exact .inr ⟨j, e, h1, h3⟩

/-! ### The way back -/

/-- What the rounds have done, by edge i of round r, to two states that differ in their first last edges alone: t tells in which round a node was changed last. -/
structure Way (es : List GE) (n r i : Nat) (s s' : St) (t : Nat → Nat) : Prop where
  kn : ∀ v, v < n → s.kn v = true
  skn : s'.kn = s.kn
  snu : s'.nu = s.nu
  le : ∀ v, t v ≤ r
  la : ∀ v, 1 ≤ t v → ∃ (j : Nat) (e : GE), s.la v = (j : Int) ∧ s'.la v = (j : Int) ∧ es[j]? = some e ∧ e.v.toNat = v ∧ t v ≤ t e.u.toNat + 1
  ex : ∀ (j : Nat) (e : GE), es[j]? = some e → ¬ (sumE s e < s.nu e.v.toNat) ∨ (if j < i then r ≤ t e.u.toNat else r ≤ t e.u.toNat + 1)

theorem Way.low {es : List GE} {n r i : Nat} {s s' : St} {t : Nat → Nat} (w : Way es n r i s s' t) {e : GE} (hu : e.u.toNat < n) (hv : e.v.toNat < n) : lowE s e = decide (sumE s e < s.nu e.v.toNat) := by
  unfold lowE; rw [w.kn _ hu, w.kn _ hv]; rfl
theorem Way.sum {es : List GE} {n r i : Nat} {s s' : St} {t : Nat → Nat} (w : Way es n r i s s' t) (e : GE) : sumE s' e = sumE s e := by unfold sumE; rw [w.snu]
theorem Way.low' {es : List GE} {n r i : Nat} {s s' : St} {t : Nat → Nat} (w : Way es n r i s s' t) (e : GE) : lowE s' e = lowE s e := by unfold lowE; rw [w.skn, w.snu, w.sum]

theorem Way.step {es : List GE} {n r i : Nat} {s s' : St} {t : Nat → Nat} (w : Way es n r i s s' t) (hes : ∀ (j : Nat) (e : GE), es[j]? = some e → e.u.toNat < n ∧ e.v.toNat < n) {e : GE} (he : es[i]? = some e) :
    (lowE s e = true → Way es n r (i + 1) (updE s i e) (updE s' i e) (upf t e.v.toNat r)) ∧ (lowE s e = false → Way es n r (i + 1) s s' t) := by
  obtain ⟨hu, hv⟩ := hes i e he
  constructor
  · intro hl
    have hlt : sumE s e < s.nu e.v.toNat := by rw [w.low hu hv] at hl; exact of_decide_eq_true hl
    have hri : r ≤ t e.u.toNat + 1 := by
      rcases w.ex i e he with h | h
      · exact absurd hlt h
      · rw [if_neg (by omega)] at h; exact h
    have hmono : ∀ v, t v ≤ upf t e.v.toNat r v := by
      intro v; unfold upf; split
      · exact w.le v
      · exact Nat.le_refl _
    refine ⟨?_, ?_, ?_, ?_, ?_, ?_⟩
    · intro v hv'
      show upf s.kn _ _ v = true
      unfold upf; split
      · rfl
      · exact w.kn v hv'
    · show upf s'.kn _ _ = upf s.kn _ _; rw [w.skn]
    · show upf s'.nu _ _ = upf s.nu _ _; rw [w.snu, w.sum]
    · intro v; unfold upf; split
      · exact Nat.le_refl _
      · exact w.le v
    · intro v hv1
      by_cases hve : v = e.v.toNat
      · subst hve
        refine ⟨i, e, by show upf s.la _ _ _ = _; simp [upf], by show upf s'.la _ _ _ = _; simp [upf], he, rfl, ?_⟩
        have h1 : upf t e.v.toNat r e.v.toNat = r := by simp [upf]
        have := hmono e.u.toNat
        omega
      · have h1 : upf t e.v.toNat r v = t v := by simp [upf, hve]
        rw [h1] at hv1 ⊢
        obtain ⟨j, e', a1, a2, a3, a4, a5⟩ := w.la v hv1
        refine ⟨j, e', by show upf s.la _ _ _ = _; simp [upf, hve, a1], by show upf s'.la _ _ _ = _; simp [upf, hve, a2], a3, a4, ?_⟩
        have := hmono e'.u.toNat
        omega
    · intro j e' he'
      by_cases hue : e'.u.toNat = e.v.toNat
      · right
        have : upf t e.v.toNat r e'.u.toNat = r := by rw [hue]; simp [upf]
        rw [this]; split <;> omega
      · have hs' : sumE (updE s i e) e' = sumE s e' := by
          show wrap64 (upf s.nu _ _ _ + _) = wrap64 _
          simp [upf, hue]
        have ht' : upf t e.v.toNat r e'.u.toNat = t e'.u.toNat := by simp [upf, hue]
        rw [hs', ht']
        have hn' : (updE s i e).nu e'.v.toNat = if e'.v.toNat = e.v.toNat then sumE s e else s.nu e'.v.toNat := rfl
        rw [hn']
        by_cases hji : j = i
        · subst hji
          have : e' = e := by rw [he] at he'; exact (Option.some.inj he').symm
          subst this
          left; rw [if_pos rfl]; omega
        · rcases w.ex j e' he' with h | h
          · left
            split
            · next hvv => rw [hvv] at h; omega
            · exact h
          · right
            by_cases hlt2 : j < i
            · rw [if_pos hlt2] at h; rw [if_pos (by omega)]; exact h
            · rw [if_neg hlt2] at h; rw [if_neg (by omega)]; exact h
  · intro hl
    have hnl : ¬ (sumE s e < s.nu e.v.toNat) := by rw [w.low hu hv] at hl; exact of_decide_eq_false hl
    refine ⟨w.kn, w.skn, w.snu, w.le, w.la, fun j e' he' => ?_⟩
    by_cases hji : j = i
    · subst hji
      have : e' = e := by rw [he] at he'; exact (Option.some.inj he').symm
      subst this
      exact .inl hnl
    · rcases w.ex j e' he' with h | h
      · exact .inl h
      · right
        by_cases hlt2 : j < i
        · rw [if_pos hlt2] at h; rw [if_pos (by omega)]; exact h
        · rw [if_neg hlt2] at h; rw [if_neg (by omega)]; exact h

theorem Way.pass {es : List GE} {n r : Nat} {s s' : St} {t : Nat → Nat} (w : Way es n r 0 s s' t) (hes : ∀ (j : Nat) (e : GE), es[j]? = some e → e.u.toNat < n ∧ e.v.toNat < n) :
    ∀ i, i ≤ es.length → ∃ t', Way es n r i (passTo es s i).1 (passTo es s' i).1 t' ∧ (passTo es s' i).2 = (passTo es s i).2 ∧ (∀ (j : Nat) (e : GE), (passTo es s i).2 = (j : Int) → es[j]? = some e → t' e.v.toNat = r) := by
  intro i
  induction i with
  | zero => exact fun _ => ⟨t, w, rfl, fun j e h _ => by have h2 : (-1 : Int) = (j : Int) := h; omega⟩
  | succ i ih =>
    intro hi
    obtain ⟨t', w', h1, h2⟩ := ih (by omega)
    obtain ⟨e, he⟩ : ∃ e, es[i]? = some e := ⟨_, List.getElem?_eq_getElem (by omega)⟩
    have hst := w'.step hes he
    cases hl : lowE (passTo es s i).1 e with
    | true =>
      have hl' : lowE (passTo es s' i).1 e = true := by rw [w'.low', hl]
      rw [pass_low he hl, pass_low he hl']
      refine ⟨_, hst.1 hl, rfl, fun j e' h hj => ?_⟩
      have hij : i = j := by have h3 : (i : Int) = (j : Int) := h; omega
      subst hij
      have : e' = e := by rw [he] at hj; exact (Option.some.inj hj).symm
      subst this
      simp [upf]
    | false =>
      have hl' : lowE (passTo es s' i).1 e = false := by rw [w'.low', hl]
      rw [pass_not he hl, pass_not he hl']
      exact ⟨t', hst.2 hl, h1, h2⟩

theorem Way.next {es : List GE} {n r : Nat} {s s' : St} {t : Nat → Nat} (w : Way es n r es.length s s' t) : Way es n (r + 1) 0 s s' t := by
  refine ⟨w.kn, w.skn, w.snu, fun v => Nat.le_succ_of_le (w.le v), w.la, fun j e he => ?_⟩
  rcases w.ex j e he with h | h
  · exact .inl h
  · right
    have : j < es.length := (List.getElem?_eq_some_iff.1 he).1
    rw [if_pos this] at h
    rw [if_neg (by omega)]; omega

theorem Way.rounds {es : List GE} {n : Nat} {s s' : St} (hes : ∀ (j : Nat) (e : GE), es[j]? = some e → e.u.toNat < n ∧ e.v.toNat < n) (hk : ∀ v, v < n → s.kn v = true) (hk' : s'.kn = s.kn) (hn' : s'.nu = s.nu) :
    ∀ r, ∃ t, Way es n (r + 1) 0 (roundsE es s r).1 (roundsE es s' r).1 t ∧ (roundsE es s' r).2 = (roundsE es s r).2 ∧ (∀ (j : Nat) (e : GE), (roundsE es s r).2 = (j : Int) → es[j]? = some e → t e.v.toNat = r) := by
  intro r
  induction r with
  | zero =>
    refine ⟨fun _ => 0, ⟨hk, hk', hn', fun v => Nat.zero_le _, fun v h => by omega, fun j e he => .inr (by rw [if_neg (by omega)]; omega)⟩, rfl, fun j e h _ => ?_⟩
    have h2 : (-1 : Int) = (j : Int) := h
    omega
  | succ r ih =>
    obtain ⟨t, w, h1, h2⟩ := ih
    obtain ⟨t', w', h3, h4⟩ := w.pass hes es.length (Nat.le_refl _)
    exact ⟨t', w'.next, h3, h4⟩

theorem pigeon : ∀ (n : Nat) (f : Nat → Nat), (∀ k, k ≤ n → f k < n) → ∃ i j, i < j ∧ j ≤ n ∧ f i = f j := by
  intro n
  induction n with
  | zero => intro f h; have := h 0 (Nat.le_refl _); omega
  | succ n ih =>
    intro f h
    by_cases hx : ∃ k, k ≤ n ∧ f k = f (n + 1)
    · obtain ⟨k, h1, h2⟩ := hx
      exact ⟨k, n + 1, by omega, by omega, h2⟩
    · have hne : ∀ k, k ≤ n → f k ≠ f (n + 1) := fun k hk e => hx ⟨k, hk, e⟩
      have hc := h (n + 1) (Nat.le_refl _)
      obtain ⟨i, j, h1, h2, h3⟩ := ih (fun k => if f (n + 1) < f k then f k - 1 else f k) (fun k hk => by
        have a := h k (by omega)
        have b := hne k hk
        by_cases hfk : f (n + 1) < f k
        · have e1 : (if f (n + 1) < f k then f k - 1 else f k) = f k - 1 := if_pos hfk
          show (if f (n + 1) < f k then f k - 1 else f k) < n
          rw [e1]; omega
        · have e1 : (if f (n + 1) < f k then f k - 1 else f k) = f k := if_neg hfk
          show (if f (n + 1) < f k then f k - 1 else f k) < n
          rw [e1]; omega)
      refine ⟨i, j, h1, by omega, ?_⟩
      have a := hne i (by omega)
      have b := hne j (by omega)
      split at h3 <;> split at h3 <;> omega

def nxE (es : List GE) (la : Nat → Int) (v : Nat) : Nat := (edE es (la v)).u.toNat
def itE (es : List GE) (la : Nat → Int) (v : Nat) : Nat → Nat
  | 0 => v
  | k + 1 => nxE es la (itE es la v k)
theorem itE_add (es : List GE) (la : Nat → Int) (v a b : Nat) : itE es la v (a + b) = itE es la (itE es la v a) b := by
  induction b with
  | zero => rfl
  | succ b ih => show nxE es la (itE es la v (a + b)) = nxE es la _; rw [ih]

/-- On the way back from the node that was changed in the last round every node has a last edge, the same one in both states; and the node that is reached by as many steps as there are nodes lies on a cycle. -/
theorem Way.back {es : List GE} {n r i : Nat} {s s' : St} {t : Nat → Nat} (w : Way es n r i s s' t) (hes : ∀ (j : Nat) (e : GE), es[j]? = some e → e.u.toNat < n ∧ e.v.toNat < n) {v : Nat} (hv : v < n) (ht : n ≤ t v) :
    (∀ k, itE es s.la v k < n ∧ ∃ (j : Nat) (e : GE), s.la (itE es s.la v k) = (j : Int) ∧ s'.la (itE es s.la v k) = (j : Int) ∧ es[j]? = some e) ∧
    (∃ p, 0 < p ∧ p ≤ n ∧ itE es s.la (itE es s.la v n) p = itE es s.la v n) := by
  have hk : ∀ k, k ≤ n → itE es s.la v k < n ∧ n ≤ t (itE es s.la v k) + k := by
    intro k
    induction k with
    | zero => exact fun _ => ⟨hv, ht⟩
    | succ k ih =>
      intro hkn
      obtain ⟨h1, h2⟩ := ih (by omega)
      obtain ⟨j, e, a1, a2, a3, a4, a5⟩ := w.la (itE es s.la v k) (by omega)
      have hx : itE es s.la v (k + 1) = e.u.toNat := by
        show nxE es s.la _ = _
        unfold nxE; rw [a1, edE_at es a3]
      rw [hx]
      exact ⟨(hes j e a3).1, by omega⟩
  obtain ⟨a, b, hab, hbn, hf⟩ := pigeon n (itE es s.la v) (fun k h => (hk k h).1)
  have hper : ∀ m, itE es s.la v (a + m + (b - a)) = itE es s.la v (a + m) := by
    intro m
    rw [show a + m + (b - a) = b + m from by omega, itE_add, itE_add, hf]
  have hall : ∀ k, ∃ k', k' < n ∧ itE es s.la v k = itE es s.la v k' := by
    intro k
    induction k using Nat.strongRecOn with
    | _ k ih =>
      by_cases hkb : k < b
      · exact ⟨k, by omega, rfl⟩
      · have hp := hper (k - b)
        rw [show a + (k - b) + (b - a) = k from by omega] at hp
        obtain ⟨k', h1, h2⟩ := ih (a + (k - b)) (by omega)
        exact ⟨k', h1, hp.trans h2⟩
  constructor
  · intro k
    obtain ⟨k', h1, h2⟩ := hall k
    rw [h2]
    obtain ⟨h3, h4⟩ := hk k' (by omega)
    obtain ⟨j, e, a1, a2, a3, _⟩ := w.la (itE es s.la v k') (by omega)
    exact ⟨h3, j, e, a1, a2, a3⟩
  · refine ⟨b - a, by omega, by omega, ?_⟩
    rw [← itE_add]
    have := hper (n - a)
    rw [show a + (n - a) = n from by omega] at this
    exact this

theorem least_of {P : Nat → Prop} : ∀ p, P p → ∃ q, q ≤ p ∧ P q ∧ ∀ k, k < q → ¬ P k := by
  intro p
  induction p using Nat.strongRecOn with
  | _ p ih =>
    intro hp
    by_cases h : ∃ k, k < p ∧ P k
    · obtain ⟨k, h1, h2⟩ := h
      obtain ⟨q, a, b, c⟩ := ih k h1 h2
      exact ⟨q, by omega, b, c⟩
    · exact ⟨p, Nat.le_refl _, hp, fun k hk hP => h ⟨k, hk, hP⟩⟩

/-- The last edges of m steps back. -/
def backE (es : List GE) (la : Nat → Int) (v m : Nat) : List Int := (List.range m).map fun k => la (itE es la v k)
theorem backE_succ (es : List GE) (la : Nat → Int) (v m : Nat) : backE es la v (m + 1) = backE es la v m ++ [la (itE es la v m)] := by
  simp [backE, List.range_succ]
theorem itE_same {es : List GE} {la la' : Nat → Int} {v : Nat} (h : ∀ k, la' (itE es la v k) = la (itE es la v k)) : ∀ k, itE es la' v k = itE es la v k := by
  intro k
  induction k with
  | zero => rfl
  | succ k ih => show nxE es la' _ = nxE es la _; rw [ih]; unfold nxE; rw [h k]

end Go.Proofs.Yteppmlepbfjnpaa

namespace Go.Proofs.Yteppmlepbfjnpaa
open Go.RowKit
set_option linter.unusedVariables false
set_option linter.unusedSimpArgs false

/-- From offset o of block g on lie n cells, none frozen, the j-th holding f j. -/
structure RowF (W : World) (g o n : Nat) (f : Nat → Value) : Prop where
  lt : g < W.heap.size
  cell : ∀ j, j < n → W.cell? ⟨g, o + j, none⟩ = some (f j)
  free : ∀ j, j < n → W.frozen? ⟨g, o + j, none⟩ = false

theorem RowF.of_heap {W W' : World} {g o n : Nat} {f : Nat → Value} (h : RowF W g o n f) (hs : W.heap.size ≤ W'.heap.size) (hb : W'.heap[g]? = W.heap[g]?) : RowF W' g o n f :=
  ⟨Nat.lt_of_lt_of_le h.lt hs, fun j hj => (World.cell?_of_block (a := ⟨g, o + j, none⟩) hb).trans (h.cell j hj), fun j hj => (World.frozen?_of_block (a := ⟨g, o + j, none⟩) hb).trans (h.free j hj)⟩
theorem RowF.drew {W : World} {g o n : Nat} {f : Nat → Value} (h : RowF W g o n f) : RowF W.drew g o n f := h.of_heap (Nat.le_refl _) rfl
theorem RowF.drewN {W : World} {g o n : Nat} {f : Nat → Value} (h : RowF W g o n f) (q : Nat) : RowF (W.drewN q) g o n f := h.of_heap (Nat.le_refl _) rfl
theorem RowF.alloc {W : World} {g o n : Nat} {f : Nat → Value} (h : RowF W g o n f) (x : Obj) : RowF (W.alloc x) g o n f := h.of_heap (by simp) (Below.heap_alloc W x g h.lt)
theorem RowF.below {W W' : World} {g o n B : Nat} {f : Nat → Value} (h : RowF W g o n f) (hb : Below B W W') (hg : g < B) : RowF W' g o n f := h.of_heap hb.size (hb.block g hg)
theorem RowF.other {W : World} {g o n : Nat} {f : Nat → Value} (h : RowF W g o n f) {p : Addr} (hp : p.block ≠ g) (x : Value) : RowF (W.setCell p x) g o n f :=
  h.of_heap (by simp [World.setCell]) (Below.heap_setCell W p x g (fun e => hp e.symm))
theorem RowF.congr {W : World} {g o n : Nat} {f f' : Nat → Value} (h : RowF W g o n f) (e : ∀ j, j < n → f j = f' j) : RowF W g o n f' :=
  ⟨h.lt, fun j hj => (h.cell j hj).trans (by rw [e j hj]), h.free⟩
theorem setCell_frozen_block (W : World) (p : Addr) (x : Value) (a : Addr) : (W.setCell p x).frozen? a = W.frozen? a := World.frozen?_setCell _ _ _ _
/-- A store at the i-th. -/
theorem RowF.store {W : World} {g o n : Nat} {f : Nat → Value} (h : RowF W g o n f) {q i : Nat} (hq : q = o + i) (hi : i < n) (x : Value) : RowF (W.setCell ⟨g, q, none⟩ x) g o n (upf f i x) := by
  subst hq
  refine ⟨by simpa [World.setCell] using h.lt, fun j hj => ?_, fun j hj => (setCell_frozen_block _ _ _ _).trans (h.free j hj)⟩
  by_cases e : j = i
  · subst e
    rw [World.cell?_setCell_same _ _ _ (h.cell j hj)]; simp [upf]
  · rw [World.cell?_setCell_other _ _ _ _ (by intro h; simp only [Addr.mk.injEq] at h; omega), h.cell j hj]; simp [upf, e]
/-- A store at another offset of the block. -/
theorem RowF.beside {W : World} {g o n : Nat} {f : Nat → Value} (h : RowF W g o n f) {q : Nat} (hq : q < o ∨ o + n ≤ q) (x : Value) : RowF (W.setCell ⟨g, q, none⟩ x) g o n f :=
  ⟨by simpa [World.setCell] using h.lt, fun j hj => by rw [World.cell?_setCell_other _ _ _ _ (by intro h; simp only [Addr.mk.injEq] at h; omega), h.cell j hj], fun j hj => (setCell_frozen_block _ _ _ _).trans (h.free j hj)⟩

def fI (f : Nat → Int) : Nat → Value := fun j => .int .i64 (f j)
def fB (f : Nat → Bool) : Nat → Value := fun j => .bool (f j)
theorem fI_up (f : Nat → Int) (i : Nat) (x : Int) : upf (fI f) i (.int .i64 x) = fI (upf f i x) := by
  funext j; unfold upf fI; dsimp only; split <;> rfl
theorem fB_up (f : Nat → Bool) (i : Nat) (x : Bool) : upf (fB f) i (.bool x) = fB (upf f i x) := by
  funext j; unfold upf fB; dsimp only; split <;> rfl

/-- The state in the model's three slices. -/
structure SpAt (W : World) (gd gl gk N : Nat) (s : St) : Prop where
  nu : RowF W gd 0 N (fI s.nu)
  la : RowF W gl 0 N (fI s.la)
  kn : RowF W gk 0 N (fB s.kn)
/-- The state in the program's struct. -/
structure MkAt (W : World) (b : Nat) (s : St) : Prop where
  kn : RowF W b 0 8 (fB s.kn)
  nu : RowF W b 8 8 (fI s.nu)
  la : RowF W b 16 8 (fI s.la)
theorem MkAt.of_heap {W W' : World} {b : Nat} {s : St} (h : MkAt W b s) (hs : W.heap.size ≤ W'.heap.size) (hb : W'.heap[b]? = W.heap[b]?) : MkAt W' b s := ⟨h.kn.of_heap hs hb, h.nu.of_heap hs hb, h.la.of_heap hs hb⟩
theorem MkAt.alloc {W : World} {b : Nat} {s : St} (h : MkAt W b s) (x : Obj) : MkAt (W.alloc x) b s := ⟨h.kn.alloc x, h.nu.alloc x, h.la.alloc x⟩
theorem MkAt.drew {W : World} {b : Nat} {s : St} (h : MkAt W b s) : MkAt W.drew b s := ⟨h.kn.drew, h.nu.drew, h.la.drew⟩
theorem MkAt.drewN {W : World} {b : Nat} {s : St} (h : MkAt W b s) (q : Nat) : MkAt (W.drewN q) b s := ⟨h.kn.drewN q, h.nu.drewN q, h.la.drewN q⟩
theorem MkAt.other {W : World} {b : Nat} {s : St} (h : MkAt W b s) {p : Addr} (hp : p.block ≠ b) (x : Value) : MkAt (W.setCell p x) b s := ⟨h.kn.other hp x, h.nu.other hp x, h.la.other hp x⟩
theorem upd_nu {s : St} {e : GE} {v : Nat} {sv : Int} (hv : e.v.toNat = v) (hs : sumE s e = sv) (i : Nat) : upf (fI s.nu) v (.int .i64 sv) = fI (updE s i e).nu := by subst hv; subst hs; exact fI_up _ _ _
theorem upd_la {s : St} {e : GE} {v : Nat} (hv : e.v.toNat = v) (i : Nat) : upf (fI s.la) v (.int .i64 (i : Int)) = fI (updE s i e).la := by subst hv; exact fI_up _ _ _
theorem upd_kn {s : St} {e : GE} {v : Nat} (hv : e.v.toNat = v) (i : Nat) : upf (fB s.kn) v (.bool true) = fB (updE s i e).kn := by subst hv; exact fB_up _ _ _

theorem World.grownBy_self (w : World) (r : Option Nat) : w.grownBy w r := ⟨rfl, rfl, rfl, Nat.le_refl _, fun _ _ _ => rfl⟩
theorem grown_drew {w w' : World} {r : Option Nat} (h : w.grownBy w' r) : w.grownBy w'.drew r := ⟨h.os, h.tape, h.output, h.size, h.block⟩
theorem grown_drewN {w w' : World} {r : Option Nat} (h : w.grownBy w' r) (q : Nat) : w.grownBy (w'.drewN q) r := ⟨h.os, h.tape, h.output, h.size, h.block⟩
theorem grown_alloc {w w' : World} {r : Option Nat} (h : w.grownBy w' r) (o : Obj) : w.grownBy (w'.alloc o) r :=
  ⟨h.os, h.tape, h.output, by have := h.size; simp; omega, fun k hk hr => (Below.heap_alloc w' o k (Nat.lt_of_lt_of_le hk h.size)).trans (h.block k hk hr)⟩
theorem grown_set {w w' : World} {b : Nat} (h : w.grownBy w' (some b)) (q : Nat) (x : Value) : w.grownBy (w'.setCell ⟨b, q, none⟩ x) (some b) :=
  ⟨h.os, h.tape, h.output, by have := h.size; simpa [World.setCell] using this, fun k hk hr => (Below.heap_setCell w' ⟨b, q, none⟩ x k (fun e => hr (by rw [e]))).trans (h.block k hk hr)⟩

end Go.Proofs.Yteppmlepbfjnpaa

namespace Go.Proofs.Yteppmlepbfjnpaa
open Go.RowKit
set_option linter.unusedVariables false
set_option linter.unusedSimpArgs false

def stepE (s : St) (i : Nat) (e : GE) : St := if lowE s e = true then updE s i e else s
theorem cells_marks : Try.prog.cellsOf 106 = 24 := by kernel_rfl

set_option maxRecDepth 100000 in
set_option maxHeartbeats 4000000 in
theorem lower_any (b i : Nat) (e : GE) (u v : Nat) (he : e = ⟨u, v, e.c⟩) (hu : u < 8) (hv : v < 8) (s : St) (w : World) (hs : MkAt w b s) :
    Calls Try.prog 99 #[.pointer (some ⟨b, 0, none⟩), .int .i64 i, e.val] w fun x w' => x = .returned (.bool (lowE s e)) ∧ MkAt w' b (stepE s i e) ∧ w.grownBy w' (some b) := by
  have HSP := Lib.hid hs
  have hb := hs.kn.lt
  obtain ⟨x, hx⟩ : ∃ x, x = e.c := ⟨_, rfl⟩
  have hval : e.val = .agg #[.int .i64 (u : Int), .int .i64 (v : Int), .int .i64 x] := by rw [hx, he]; rfl
  rw [hval]
  obtain ⟨bu, hbu⟩ : ∃ b, b = s.kn u := ⟨_, rfl⟩
  obtain ⟨bv, hbv⟩ : ∃ b, b = s.kn v := ⟨_, rfl⟩
  obtain ⟨nu, hnu⟩ : ∃ b, b = s.nu u := ⟨_, rfl⟩
  obtain ⟨nv, hnv⟩ : ∃ b, b = s.nu v := ⟨_, rfl⟩
  obtain ⟨lv, hlv⟩ : ∃ b, b = s.la v := ⟨_, rfl⟩
  have f1 : w.cell? ⟨b, u, none⟩ = some (.bool bu) := by rw [hbu]; simpa [fB] using hs.kn.cell u hu
  have f2 : w.cell? ⟨b, v, none⟩ = some (.bool bv) := by rw [hbv]; simpa [fB] using hs.kn.cell v hv
  have f3 : w.cell? ⟨b, 8 + u, none⟩ = some (.int .i64 nu) := by rw [hnu]; simpa [fI] using hs.nu.cell u hu
  have f4 : w.cell? ⟨b, 8 + v, none⟩ = some (.int .i64 nv) := by rw [hnv]; simpa [fI] using hs.nu.cell v hv
  have f5 : w.cell? ⟨b, 16 + v, none⟩ = some (.int .i64 lv) := by rw [hlv]; simpa [fI] using hs.la.cell v hv
  have r1 : w.frozen? ⟨b, 8 + v, none⟩ = false := by simpa using hs.nu.free v hv
  have r2 : w.frozen? ⟨b, 16 + v, none⟩ = false := by simpa using hs.la.free v hv
  have r3 : w.frozen? ⟨b, v, none⟩ = false := by simpa using hs.kn.free v hv
  have hlow : ∀ r, r = (bu && (!bv || decide (wrap64 (nu + x) < nv))) → lowE s e = r := by
    intro r hr; rw [hr, hbu, hbv, hnu, hnv, hx, he]; rfl
  have hsum : sumE s e = wrap64 (nu + x) := by rw [hnu, hx, he]; rfl
  obtain ⟨sv, hsv⟩ : ∃ sv, sv = wrap64 (nu + x) := ⟨_, rfl⟩
  have z1 : wrap64 (nu + x) = sv := hsv.symm
  have z2 : IntKind.i64.wrap (nu + x) = sv := (IntWalk.i64_left _).trans z1
  rw [z1] at hlow hsum
  have hv2 : e.v.toNat = v := by rw [he]; simp
  have HV2 := Lib.hid hv2
  have HLO := Lib.hid hlow
  have HSU := Lib.hid hsum
  have hui : (u : Int) < 8 := by omega
  have hvi : (v : Int) < 8 := by omega
  have ng : (b = w.heap.size) = False := eq_false (by omega)
  have ng2 : (w.heap.size = b) = False := eq_false (by omega)
  clear he hbu hbv hnu hnv hlv hlow hsum hsv hs hval hx hv2
  cases bu with
  | false =>
    go_enter Try.func99, Try.ntmps99
    go_wp2_with fail
    go_quiet (fail)
    go_wp2_with fail
    go_quiet (fail)
    go_wp2_with fail
    go_ret
    exact ⟨ret_b (HLO.out _ rfl).symm, by rw [stepE, if_neg (by rw [HLO.out _ rfl]; simp)]; exact (by repeat (first | exact HSP.out | refine MkAt.drew ?_ | refine MkAt.drewN ?_ _ | refine MkAt.alloc ?_ _)), (by repeat (first | exact World.grownBy_self _ _ | refine grown_drew ?_ | refine grown_drewN ?_ _ | refine grown_set ?_ _ _ | refine grown_alloc ?_ _))⟩
  | true =>
    cases bv with
    | false =>
      go_enter Try.func99, Try.ntmps99
      go_wp2_with fail
      go_quiet (fail)
      go_wp2_with fail
      go_quiet (fail)
      go_wp2_with fail
      go_region
      all_goals
        go_wp2_with fail
        go_ret
        refine ⟨ret_b (HLO.out _ rfl).symm, ?_, (by repeat (first | exact World.grownBy_self _ _ | refine grown_drew ?_ | refine grown_drewN ?_ _ | refine grown_set ?_ _ _ | refine grown_alloc ?_ _))⟩
        rw [stepE, if_pos (HLO.out true rfl)]
        refine ⟨?_, ?_, ?_⟩
        · show RowF _ _ _ _ (fB (updE s i e).kn)
          rw [← upd_kn HV2.out i]
          exact (by first | (repeat (first | exact HSP.out.kn | refine RowF.drew ?_ | refine RowF.drewN ?_ _ | refine RowF.alloc ?_ _ | refine RowF.store ?_ (i := v) (by first | (simp; done) | (simp; omega) | omega) (by assumption) _ | refine RowF.beside ?_ (by first | (simp; done) | (simp; omega) | omega) _)))
        · show RowF _ _ _ _ (fI (updE s i e).nu)
          rw [← upd_nu HV2.out HSU.out]
          exact (by first | (repeat (first | exact HSP.out.nu | refine RowF.drew ?_ | refine RowF.drewN ?_ _ | refine RowF.alloc ?_ _ | refine RowF.store ?_ (i := v) (by first | (simp; done) | (simp; omega) | omega) (by assumption) _ | refine RowF.beside ?_ (by first | (simp; done) | (simp; omega) | omega) _)))
        · show RowF _ _ _ _ (fI (updE s i e).la)
          rw [← upd_la HV2.out]
          exact (by first | (repeat (first | exact HSP.out.la | refine RowF.drew ?_ | refine RowF.drewN ?_ _ | refine RowF.alloc ?_ _ | refine RowF.store ?_ (i := v) (by first | (simp; done) | (simp; omega) | omega) (by assumption) _ | refine RowF.beside ?_ (by first | (simp; done) | (simp; omega) | omega) _)))
    | true =>
      by_cases hl2 : sv < nv
      · have hl3 : decide (nv ≤ sv) = false := decide_eq_false (by omega)
        go_enter Try.func99, Try.ntmps99
        go_wp2_with fail
        go_quiet (fail)
        go_wp2_with fail
        go_quiet (fail)
        go_wp2_with fail
        go_region
        all_goals
          go_wp2_with fail
          go_ret
          refine ⟨ret_b (HLO.out _ (by rw [decide_eq_true hl2]; rfl)).symm, ?_, (by repeat (first | exact World.grownBy_self _ _ | refine grown_drew ?_ | refine grown_drewN ?_ _ | refine grown_set ?_ _ _ | refine grown_alloc ?_ _))⟩
          rw [stepE, if_pos (HLO.out true (by rw [decide_eq_true hl2]; rfl))]
          refine ⟨?_, ?_, ?_⟩
          · show RowF _ _ _ _ (fB (updE s i e).kn)
            rw [← upd_kn HV2.out i]
            exact (by first | (repeat (first | exact HSP.out.kn | refine RowF.drew ?_ | refine RowF.drewN ?_ _ | refine RowF.alloc ?_ _ | refine RowF.store ?_ (i := v) (by first | (simp; done) | (simp; omega) | omega) (by assumption) _ | refine RowF.beside ?_ (by first | (simp; done) | (simp; omega) | omega) _)))
          · show RowF _ _ _ _ (fI (updE s i e).nu)
            rw [← upd_nu HV2.out HSU.out]
            exact (by first | (repeat (first | exact HSP.out.nu | refine RowF.drew ?_ | refine RowF.drewN ?_ _ | refine RowF.alloc ?_ _ | refine RowF.store ?_ (i := v) (by first | (simp; done) | (simp; omega) | omega) (by assumption) _ | refine RowF.beside ?_ (by first | (simp; done) | (simp; omega) | omega) _)))
          · show RowF _ _ _ _ (fI (updE s i e).la)
            rw [← upd_la HV2.out]
            exact (by first | (repeat (first | exact HSP.out.la | refine RowF.drew ?_ | refine RowF.drewN ?_ _ | refine RowF.alloc ?_ _ | refine RowF.store ?_ (i := v) (by first | (simp; done) | (simp; omega) | omega) (by assumption) _ | refine RowF.beside ?_ (by first | (simp; done) | (simp; omega) | omega) _)))
      · have hl3 : decide (nv ≤ sv) = true := decide_eq_true (by omega)
        have hl4 : nv ≤ sv := by omega
        have HD := Lib.hid (decide_eq_false hl2)
        go_enter Try.func99, Try.ntmps99
        go_wp2_with fail
        go_quiet (fail)
        go_wp2_with fail
        go_quiet (fail)
        go_wp2_with fail
        go_ret
        exact ⟨ret_b (HLO.out _ (by rw [HD.out]; rfl)).symm, by rw [stepE, if_neg (by rw [HLO.out false (by rw [HD.out]; rfl)]; simp)]; exact (by repeat (first | exact HSP.out | refine MkAt.drew ?_ | refine MkAt.drewN ?_ _ | refine MkAt.alloc ?_ _)), (by repeat (first | exact World.grownBy_self _ _ | refine grown_drew ?_ | refine grown_drewN ?_ _ | refine grown_set ?_ _ _ | refine grown_alloc ?_ _))⟩

end Go.Proofs.Yteppmlepbfjnpaa

namespace Go.Proofs.Yteppmlepbfjnpaa
open Go.RowKit Go.Shelf
set_option linter.unusedVariables false
set_option linter.unusedSimpArgs false

attribute [local go_sem] Oper.semAt_some

/-- What a round keeps: the block in which the iterator holds the graph. -/
def KpB (Bn : Nat) (W W' : World) : Prop := W'.heap[Bn]? = W.heap[Bn]?
theorem KpB.t {Bn : Nat} {A B C : World} (h : KpB Bn A B) (k : KpB Bn B C) : KpB Bn A C := Eq.trans k h
theorem KpB.b {Bn : Nat} {w : World} (hn : Bn < w.heap.size) (W : World) (l : Nat) (o o' : Obj) (hl : w.heap.size ≤ l) (h : W.heap[l]? = some o) (_ : o.isCells = false) (_ : o.isWalk = false) : KpB Bn W (W.putObj l o') :=
  World.putObj_heap_other (by omega)

set_option maxRecDepth 100000 in
set_option maxHeartbeats 2000000 in
theorem rounds1_in (F : Fence) (n : Nat) (h6 : F.fn 110) (hro : F.round = none) (hn : 1 ≤ n) (l Bn N : Nat) (A : Option Addr) (k c : Nat) (hN : N ≤ 8) (J Jx : List Unit → World → Prop)
    (hY : ∀ pre x W, J pre W → pre.length < N → YieldAt F (n - 1) Try.prog l #[.slice A k c] W fun e W' =>
      (e = .returned (.bool true) ∧ J (pre ++ [x]) W' ∧ KpB Bn W W') ∨ (e = .returned (.bool false) ∧ Jx (pre ++ [x]) W'))
    (W : World) (hB0 : W.cell? ⟨Bn, 0, none⟩ = some (.int .i64 N)) (hB1 : W.cell? ⟨Bn, 1, none⟩ = some (.slice A k c)) (h0 : J [] W) :
    CallsIn F n Try.prog 110 #[.func (.yield l) #[] #[], .pointer (some ⟨Bn, 0, none⟩)] W fun e W' => (∃ v, e = .returned v) ∧
      ((∃ ys, ys.length = N ∧ J ys W') ∨ (∃ pre, pre.length ≤ N ∧ Jx pre W')) := by
  refine callsIn_of_wp Try.func110 rfl h6 ?_ hro
  simp only [Try.ntmps110, List.size_toArray, List.length_cons, List.length_nil, Nat.reduceAdd, Nat.reduceSub, Array.replicate_succ, Array.replicate_zero, List.push_toArray, List.append_toArray, List.nil_append, List.cons_append]
  gi_wp2
  gi_loopw [5] (fun i wr => ∃ (j : Nat) (pre : List Unit), j ≤ N ∧ i = .int .i64 j ∧ pre.length = j ∧ J pre wr ∧ wr.cell? ⟨Bn, 1, none⟩ = some (.slice A k c)) (fun i _ => N - (intOf i).toNat)
  case atStart => exact ⟨0, [], Nat.zero_le _, rfl, rfl, h0, hB1⟩
  case round =>
    obtain ⟨j, pre, hj, rfl, hpl, hJs, hb1⟩ := hrel
    by_cases hlt : j < N
    · obtain ⟨fn, tmps, assign, body, hy, hR⟩ := hY pre () wr hJs (by omega)
      have HP := Lib.hid hpl
      clear hpl
      gi_wp2
      refine hR.mono ?_
      rintro e W3 (⟨rfl, hJ3, hk3⟩ | ⟨rfl, hJx3⟩)
      · have hb3 : W3.cell? ⟨Bn, 1, none⟩ = some (.slice A k c) := (World.cell?_of_block (a := ⟨Bn, 1, none⟩) hk3).trans hb1
        clear hk3
        gi_wp2
        go_roundw
        case rel => exact ⟨j + 1, pre ++ [()], by omega, by go_num, by have := HP.out; simp; omega, hJ3, hb3⟩
        case measure => simp [intOf]; omega
      · gi_wp2
        refine bodyPost_ret (results_none rfl _ _ _) rfl ?_
        exact ⟨⟨_, rfl⟩, .inr ⟨pre ++ [()], by have := HP.out; simp; omega, hJx3⟩⟩
    · have : j = N := by omega
      subst this
      gi_wp2
      go_end0
      exact ⟨⟨_, rfl⟩, .inl ⟨pre, hpl, hJs⟩⟩

set_option maxHeartbeats 1000000 in
theorem rounds_in (F : Fence) (n : Nat) (h5 : F.fn 98) (hro : F.round = none) (N : Int) (A : Option Addr) (k c : Nat) (w : World) :
    CallsIn F n Try.prog 98 #[grV N A k c] w fun e w' => e = .returned (.func (.func 110) #[] #[.pointer (some ⟨w.heap.size, 0, none⟩)]) ∧ w' = w.alloc (.cells #[.int .i64 N, .slice A k c] 69) := by
  unfold grV
  refine callsIn_of_wp Try.func98 rfl h5 ?_ hro
  simp only [Try.ntmps98, List.size_toArray, List.length_cons, List.length_nil, Nat.reduceAdd, Nat.reduceSub, Array.replicate_succ, Array.replicate_zero, List.push_toArray, List.append_toArray, List.nil_append, List.cons_append]
  gi_wp2
  go_ret
  exact ⟨rfl, rfl⟩

theorem rounds_stops (F : Fence) (n : Nat) (h6 : F.fn 110) (hro : F.round = none) (hn : 1 ≤ n) (Bn N : Nat) (A : Option Addr) (k c : Nat) (hN : N ≤ 8) (w : World) (hBn : Bn < w.heap.size)
    (hB0 : w.cell? ⟨Bn, 0, none⟩ = some (.int .i64 N)) (hB1 : w.cell? ⟨Bn, 1, none⟩ = some (.slice A k c)) :
    SeqStopsK F n Try.prog 110 #[.pointer (some ⟨Bn, 0, none⟩)] (fun _ : Unit => #[Value.slice A k c]) (KpB Bn) (fun ys => ys.length = N) (fun pre => pre.length ≤ N) N w := fun l J Jx W hW _ _ hY h0 =>
  rounds1_in F n h6 hro hn l Bn N A k c hN J Jx hY W ((hW.cell (p := ⟨Bn, 0, none⟩) hBn).trans hB0) ((hW.cell (p := ⟨Bn, 1, none⟩) hBn).trans hB1) h0

end Go.Proofs.Yteppmlepbfjnpaa

namespace Go.Proofs.Yteppmlepbfjnpaa
open Go.RowKit
set_option linter.unusedVariables false
set_option linter.unusedSimpArgs false

theorem okG_edgeN {n : Nat} {es : List GE} (h : okG n es = true) {j : Nat} {e : GE} (he : es[j]? = some e) :
    ∃ u v : Nat, e = ⟨u, v, e.c⟩ ∧ u < n ∧ v < n := by
  obtain ⟨⟨h1, h2⟩, ⟨h3, h4⟩, _⟩ := okG_edge h he
  obtain ⟨u, v, c⟩ := e
  exact ⟨u.toNat, v.toNat, by dsimp only at *; congr <;> omega, by dsimp only at *; omega, by dsimp only at *; omega⟩

set_option maxRecDepth 100000 in
set_option maxHeartbeats 4000000 in
theorem l03Round_any (n : Nat) (es : List GE) (A : Option Addr) (k c gd gl gk cd cl ck : Nat) (s : St) (w0 w : World) (hn : es.length = k) (hok : okG n es = true) (hr : EdgeAt w0 A es) (hb0 : Below w0.heap.size w0 w) (h0 : w0.heap.size ≤ gd)
    (hs : SpAt w gd gl gk n s) (hdl : gd < gl) (hlk : gl < gk) :
    Calls Try.prog 103 #[grV n A k c, .slice (some ⟨gd, 0, none⟩) n cd, .slice (some ⟨gl, 0, none⟩) n cl, .slice (some ⟨gk, 0, none⟩) n ck] w fun e w' =>
      e = .returned (.int .i64 (passTo es s k).2) ∧ SpAt w' gd gl gk n (passTo es s k).1 ∧ Below gd w w' := by
  have hk80 := (okG_rng hok).2.2
  have hn8 := (okG_rng hok).2.1
  rw [hn] at hk80
  have HR := Lib.hid hr
  have HL := Lib.hid hn
  have HO := Lib.hid hok
  have HB := Lib.hid hb0
  have hgk := hs.kn.lt
  have HS := Lib.hid hs
  clear hr hn hok hb0 hs
  unfold grV
  go_enter Try.func103, Try.ntmps103
  go_wp2_with fail
  go_loopw [9, 15] (fun ch i wr => ∃ j : Nat, j ≤ k ∧ i = .int .i64 j ∧ ch = .int .i64 (passTo es s j).2 ∧ SpAt wr gd gl gk n (passTo es s j).1 ∧ Below gd w wr ∧ gk < wr.heap.size) (fun _ i _ => k - (intOf i).toNat)
  case atStart => exact ⟨0, Nat.zero_le _, rfl, rfl, ⟨HS.out.nu.alloc _, HS.out.la.alloc _, HS.out.kn.alloc _⟩, (by repeat (first | exact Below.refl _ _ | refine below_step (by assumption) (by first | omega | (simp; done) | (simp; omega)) ?_ | refine below_drewN ?_ _ | refine Below.drew ?_ | refine Below.setCell ?_ (by first | omega | (simp; done) | (simp; omega)) _ | refine Below.alloc ?_ (by first | omega | (simp; done) | (simp; omega)) _)), by simp; omega⟩
  case round =>
    obtain ⟨j, hj, rfl, rfl, hsp, hbw, hgw⟩ := hrel
    have HSP := Lib.hid hsp
    clear hsp
    by_cases hlt : j < k
    · obtain ⟨g, o, rfl, hg, hc⟩ := HR.out (by have := HL.out; omega)
      have hc1 := hc j (by have := HL.out; omega)
      obtain ⟨e, he⟩ : ∃ e, e = es[j]'(by have := HL.out; omega) := ⟨_, rfl⟩
      rw [← he] at hc1
      have hej : es[j]? = some e := by rw [he]; exact List.getElem?_eq_getElem _
      obtain ⟨u, v, heq, hu, hv⟩ := okG_edgeN HO.out hej
      have HE := Lib.hid hej
      obtain ⟨c0, c1, c2⟩ := hc1
      have hw : ∀ x : Addr, x.block < w0.heap.size → wr.cell? x = w0.cell? x := fun x hx => (hbw.cell (p := x) (by omega)).trans (HB.out.cell (p := x) hx)
      have k0 := (hw ⟨g, o + j * 3, none⟩ hg).trans c0
      have k1 := (hw ⟨g, o + j * 3 + 1, none⟩ hg).trans c1
      have k2 := (hw ⟨g, o + j * 3 + 2, none⟩ hg).trans c2
      rw [heq] at k0 k1 k2
      dsimp only at k0 k1 k2
      obtain ⟨x, hx⟩ : ∃ x, x = e.c := ⟨_, rfl⟩
      rw [← hx] at k2
      have HX := Lib.hid heq
      have HC := Lib.hid hx
      clear hw c0 c1 c2 hc he hej heq hx
      go_wp2_with fail
      obtain ⟨wa, hwa⟩ : ∃ wa, wa = wr.alloc (.cells #[.int .i64 (u : Int), .int .i64 (v : Int), .int .i64 x] 110) := ⟨_, rfl⟩
      rw [← hwa]
      have e0 : wa.cell? ⟨wr.heap.size, 0, none⟩ = some (.int .i64 (u : Int)) := by rw [hwa]; go_simp
      have e1 : wa.cell? ⟨wr.heap.size, 1, none⟩ = some (.int .i64 (v : Int)) := by rw [hwa]; go_simp
      have e2 : wa.cell? ⟨wr.heap.size, 2, none⟩ = some (.int .i64 x) := by rw [hwa]; go_simp
      have hba : Below gd w wa := by rw [hwa]; exact hbw.alloc (by omega) _
      have hsza : gk < wa.heap.size := by rw [hwa]; simp; omega
      have hspa : SpAt wa gd gl gk n (passTo es s j).1 := by rw [hwa]; exact ⟨HSP.out.nu.alloc _, HSP.out.la.alloc _, HSP.out.kn.alloc _⟩
      clear hwa hbw k0 k1 k2
      obtain ⟨s', hs'⟩ : ∃ s', s' = (passTo es s j).1 := ⟨_, rfl⟩
      rw [← hs'] at hspa
      have HS' := Lib.hid hs'
      clear hs'
      obtain ⟨bu, hbu⟩ : ∃ b, b = s'.kn u := ⟨_, rfl⟩
      obtain ⟨bv, hbv⟩ : ∃ b, b = s'.kn v := ⟨_, rfl⟩
      obtain ⟨nu, hnu⟩ : ∃ b, b = s'.nu u := ⟨_, rfl⟩
      obtain ⟨nv, hnv⟩ : ∃ b, b = s'.nu v := ⟨_, rfl⟩
      obtain ⟨lv, hlv⟩ : ∃ b, b = s'.la v := ⟨_, rfl⟩
      have f1 : wa.cell? ⟨gk, u, none⟩ = some (.bool bu) := by rw [hbu]; simpa [fB] using hspa.kn.cell u hu
      have f2 : wa.cell? ⟨gk, v, none⟩ = some (.bool bv) := by rw [hbv]; simpa [fB] using hspa.kn.cell v hv
      have f3 : wa.cell? ⟨gd, u, none⟩ = some (.int .i64 nu) := by rw [hnu]; simpa [fI] using hspa.nu.cell u hu
      have f4 : wa.cell? ⟨gd, v, none⟩ = some (.int .i64 nv) := by rw [hnv]; simpa [fI] using hspa.nu.cell v hv
      have f5 : wa.cell? ⟨gl, v, none⟩ = some (.int .i64 lv) := by rw [hlv]; simpa [fI] using hspa.la.cell v hv
      have r1 : wa.frozen? ⟨gd, v, none⟩ = false := by simpa using hspa.nu.free v hv
      have r2 : wa.frozen? ⟨gl, v, none⟩ = false := by simpa using hspa.la.free v hv
      have r3 : wa.frozen? ⟨gk, v, none⟩ = false := by simpa using hspa.kn.free v hv
      have hge := HE.out
      have hlow : ∀ b, b = (bu && (!bv || decide (wrap64 (nu + x) < nv))) → lowE s' e = b := by
        intro b hb; rw [hb, hbu, hbv, hnu, hnv, HC.out, HX.out]; rfl
      have hsum : sumE s' e = wrap64 (nu + x) := by rw [hnu, HC.out, HX.out]; rfl
      obtain ⟨sv, hsv⟩ : ∃ sv, sv = wrap64 (nu + x) := ⟨_, rfl⟩
      have z1 : wrap64 (nu + x) = sv := hsv.symm
      have z2 : IntKind.i64.wrap (nu + x) = sv := (IntWalk.i64_left _).trans z1
      rw [z1] at hlow hsum
      have HLO := Lib.hid hlow
      have HSU := Lib.hid hsum
      have HSP2 := Lib.hid hspa
      have n1 : (gd = gl) = False := eq_false (by omega)
      have n2 : (gl = gd) = False := eq_false (by omega)
      have n3 : (gd = gk) = False := eq_false (by omega)
      have n4 : (gk = gd) = False := eq_false (by omega)
      have n5 : (gl = gk) = False := eq_false (by omega)
      have n6 : (gk = gl) = False := eq_false (by omega)
      have n7 : (gd = wr.heap.size) = False := eq_false (by omega)
      have n8 : (gl = wr.heap.size) = False := eq_false (by omega)
      have n9 : (gk = wr.heap.size) = False := eq_false (by omega)
      have m7 : (wr.heap.size = gd) = False := eq_false (by omega)
      have m8 : (wr.heap.size = gl) = False := eq_false (by omega)
      have m9 : (wr.heap.size = gk) = False := eq_false (by omega)
      have q1 : (v : Nat) < n := hv
      clear hbu hbv hnu hnv hlv hge hlow hsum hsv hspa
      have hui : (u : Int) < (n : Int) := by omega
      have hvi : (v : Int) < (n : Int) := by omega
      cases bu with
      | false =>
        go_quiet (fail)
        go_wp2_with fail
        go_roundw
        case rel => exact ⟨j + 1, by omega, by go_num, by rw [pass_not HE.out (by rw [← HS'.out]; exact HLO.out _ rfl)], by rw [pass_not HE.out (by rw [← HS'.out]; exact HLO.out _ rfl), ← HS'.out]; exact ⟨HSP2.out.nu.drewN _, HSP2.out.la.drewN _, HSP2.out.kn.drewN _⟩, below_drewN hba _, by first | assumption | go_simp⟩
        case measure => simp [intOf]; omega
      | true =>
        cases bv with
        | false =>
          go_quiet (fail)
          go_wp2_with fail
          go_region
          all_goals
            go_wp2_with fail
            go_roundw
            case rel =>
              have hp := pass_low HE.out (by rw [← HS'.out]; exact HLO.out true (by rfl))
              have hv2 : e.v.toNat = v := by rw [HX.out]; simp
              rw [← HS'.out] at hp
              refine ⟨j + 1, by omega, by go_num, by rw [hp], ?_, (by repeat (first | assumption | refine below_drewN ?_ _ | refine Below.drew ?_ | refine Below.setCell ?_ (by first | omega | (simp; done) | (simp; omega)) _ | refine Below.alloc ?_ (by first | omega | (simp; done) | (simp; omega)) _)), by first | assumption | go_simp⟩
              rw [hp]
              refine ⟨?_, ?_, ?_⟩
              · show RowF _ _ _ _ (fI (updE s' j e).nu)
                rw [← upd_nu hv2 HSU.out]
                exact (by first | (repeat (first | exact HSP2.out.nu | refine RowF.drew ?_ | refine RowF.drewN ?_ _ | refine RowF.store ?_ (i := v) (by simp) q1 _ | refine RowF.other ?_ (by first | (simp; done) | (simp; omega) | omega) _)))
              · show RowF _ _ _ _ (fI (updE s' j e).la)
                rw [← upd_la hv2]
                exact (by first | (repeat (first | exact HSP2.out.la | refine RowF.drew ?_ | refine RowF.drewN ?_ _ | refine RowF.store ?_ (i := v) (by simp) q1 _ | refine RowF.other ?_ (by first | (simp; done) | (simp; omega) | omega) _)))
              · show RowF _ _ _ _ (fB (updE s' j e).kn)
                rw [← upd_kn hv2 j]
                exact (by first | (repeat (first | exact HSP2.out.kn | refine RowF.drew ?_ | refine RowF.drewN ?_ _ | refine RowF.store ?_ (i := v) (by simp) q1 _ | refine RowF.other ?_ (by first | (simp; done) | (simp; omega) | omega) _)))
            case measure => simp [intOf]; omega
        | true =>
          by_cases hl2 : sv < nv
          · go_quiet (fail)
            go_wp2_with fail
            go_region
            all_goals
              go_wp2_with fail
              go_roundw
              case rel =>
                have hp := pass_low HE.out (by rw [← HS'.out]; exact HLO.out true (by rw [decide_eq_true hl2]; rfl))
                have hv2 : e.v.toNat = v := by rw [HX.out]; simp
                rw [← HS'.out] at hp
                refine ⟨j + 1, by omega, by go_num, by rw [hp], ?_, (by repeat (first | assumption | refine below_drewN ?_ _ | refine Below.drew ?_ | refine Below.setCell ?_ (by first | omega | (simp; done) | (simp; omega)) _ | refine Below.alloc ?_ (by first | omega | (simp; done) | (simp; omega)) _)), by first | assumption | go_simp⟩
                rw [hp]
                refine ⟨?_, ?_, ?_⟩
                · show RowF _ _ _ _ (fI (updE s' j e).nu)
                  rw [← upd_nu hv2 HSU.out]
                  exact (by first | (repeat (first | exact HSP2.out.nu | refine RowF.drew ?_ | refine RowF.drewN ?_ _ | refine RowF.store ?_ (i := v) (by simp) q1 _ | refine RowF.other ?_ (by first | (simp; done) | (simp; omega) | omega) _)))
                · show RowF _ _ _ _ (fI (updE s' j e).la)
                  rw [← upd_la hv2]
                  exact (by first | (repeat (first | exact HSP2.out.la | refine RowF.drew ?_ | refine RowF.drewN ?_ _ | refine RowF.store ?_ (i := v) (by simp) q1 _ | refine RowF.other ?_ (by first | (simp; done) | (simp; omega) | omega) _)))
                · show RowF _ _ _ _ (fB (updE s' j e).kn)
                  rw [← upd_kn hv2 j]
                  exact (by first | (repeat (first | exact HSP2.out.kn | refine RowF.drew ?_ | refine RowF.drewN ?_ _ | refine RowF.store ?_ (i := v) (by simp) q1 _ | refine RowF.other ?_ (by first | (simp; done) | (simp; omega) | omega) _)))
              case measure => simp [intOf]; omega
          · have hl3 : decide (sv < nv) = false := decide_eq_false hl2
            go_quiet (fail)
            go_wp2_with fail
            go_roundw
            case rel => exact ⟨j + 1, by omega, by go_num, by rw [pass_not HE.out (by rw [← HS'.out]; exact HLO.out _ (by rw [hl3]; rfl))], by rw [pass_not HE.out (by rw [← HS'.out]; exact HLO.out _ (by rw [hl3]; rfl)), ← HS'.out]; exact ⟨HSP2.out.nu.drewN _, HSP2.out.la.drewN _, HSP2.out.kn.drewN _⟩, below_drewN hba _, by first | assumption | go_simp⟩
            case measure => simp [intOf]; omega
    · go_wp2_with fail
      go_ret
      have : j = k := by omega
      subst this
      exact ⟨rfl, HSP.out, hbw⟩

end Go.Proofs.Yteppmlepbfjnpaa
