/-
  THE CYCLE BEHIND THE LAST CHANGED EDGE, AS A FUNCTION; the model's and the program's first last edges lead to the same one.
-/
import Derived.Test.YtdjaiijgdflopaaGrCb
namespace Go.Proofs.Ytdjaiijgdflopaa
open Go.RowKit
set_option linter.unusedVariables false
set_option linter.unusedSimpArgs false

/-- The first p (from p on, f at most) at which the way back is at x again. -/
def perE (es : List GE) (la : Nat → Int) (x : Nat) : Nat → Nat → Nat
  | 0, p => p
  | f + 1, p => if itE es la x p = x then p else perE es la x f (p + 1)
theorem perE_spec {es : List GE} {la : Nat → Int} {x : Nat} : ∀ (f p : Nat), (∃ q, p ≤ q ∧ q ≤ p + f ∧ itE es la x q = x) →
    p ≤ perE es la x f p ∧ perE es la x f p ≤ p + f ∧ itE es la x (perE es la x f p) = x ∧ ∀ t, p ≤ t → t < perE es la x f p → itE es la x t ≠ x := by
  intro f
  induction f with
  | zero =>
    rintro p ⟨q, h1, h2, h3⟩
    have : q = p := by omega
    subst this
    exact ⟨Nat.le_refl _, Nat.le_refl _, h3, fun t h4 h5 => by simp [perE] at h5; omega⟩
  | succ f ih =>
    rintro p ⟨q, h1, h2, h3⟩
    by_cases hp : itE es la x p = x
    · have e : perE es la x (f + 1) p = p := by unfold perE; rw [if_pos hp]
      rw [e]
      exact ⟨Nat.le_refl _, by omega, hp, fun t h4 h5 => by omega⟩
    · have e : perE es la x (f + 1) p = perE es la x f (p + 1) := by conv => lhs; unfold perE
                                                                     rw [if_neg hp]
      rw [e]
      have hq : q ≠ p := fun e => hp (e ▸ h3)
      obtain ⟨a1, a2, a3, a4⟩ := ih (p + 1) ⟨q, by omega, by omega, h3⟩
      refine ⟨by omega, by omega, a3, fun t h4 h5 => ?_⟩
      by_cases ht : t = p
      · subst ht; exact hp
      · exact a4 t (by omega) h5

def s0C (N : Nat) (l : Int) : St := ⟨fun j => decide (j < N), fun _ => 0, fun _ => l⟩
def endC (N : Nat) (es : List GE) : St × Int := roundsE es (s0C N (-1)) N
def headC (N : Nat) (es : List GE) : Nat := (edE es (endC N es).2).v.toNat
def atC (N : Nat) (es : List GE) : Nat := itE es (endC N es).1.la (headC N es) N
def perC (N : Nat) (es : List GE) : Nat := perE es (endC N es).1.la (atC N es) 8 1
def cycR (n : Int) (es : List GE) : List Int :=
  if okG n es = true then (if (endC n.toNat es).2 = -1 then [] else (backE es (endC n.toNat es).1.la (atC n.toNat es) (perC n.toNat es)).reverse) else []

theorem okG_nodes {N : Nat} {es : List GE} (hok : okG N es = true) : ∀ (j : Nat) (e : GE), es[j]? = some e → e.u.toNat < N ∧ e.v.toNat < N := by
  intro j e he
  obtain ⟨u, v, heq, hu, hv⟩ := okG_edgeN hok he
  rw [heq]; simp; exact ⟨hu, hv⟩

theorem cyc_facts {N : Nat} {es : List GE} (hok : okG N es = true) (h : (endC N es).2 ≠ -1) :
    ∃ (j : Nat) (e : GE), (endC N es).2 = (j : Int) ∧ (roundsE es (s0C N 0) N).2 = (j : Int) ∧ es[j]? = some e ∧ headC N es = e.v.toNat ∧
      (∀ q, itE es (endC N es).1.la (headC N es) q < N ∧ ∃ (j : Nat) (e : GE), (endC N es).1.la (itE es (endC N es).1.la (headC N es) q) = (j : Int) ∧ (roundsE es (s0C N 0) N).1.la (itE es (endC N es).1.la (headC N es) q) = (j : Int) ∧ es[j]? = some e) ∧
      0 < perC N es ∧ perC N es ≤ 9 ∧ itE es (endC N es).1.la (atC N es) (perC N es) = atC N es ∧ (∀ q, 0 < q → q < perC N es → itE es (endC N es).1.la (atC N es) q ≠ atC N es) ∧ perC N es ≤ 8 := by
  have hes := okG_nodes hok
  obtain ⟨t, w, h1, h2⟩ := Way.rounds (s := s0C N (-1)) (s' := s0C N 0) hes (fun v hv => decide_eq_true hv) rfl rfl N
  have hN8 := (okG_rng hok).2.1
  rcases rounds_rng es (s0C N (-1)) N with hr | ⟨j, e, hj, he⟩
  · exact absurd hr h
  · have hj2 : (endC N es).2 = (j : Int) := hj
    have hhead : headC N es = e.v.toNat := by unfold headC; rw [hj2, edE_at es he]
    have htv := h2 j e hj he
    obtain ⟨hb1, p, hp0, hpN, hpp⟩ := w.back hes (v := e.v.toNat) (hes j e he).2 (by omega)
    have hb1' := hb1
    rw [← hhead] at hb1 hpp
    have hper := perE_spec (es := es) (la := (endC N es).1.la) (x := atC N es) 8 1 ⟨p, by omega, by omega, hpp⟩
    have hp8 : perC N es ≤ 8 := by
      rcases Nat.lt_or_ge 8 (perC N es) with h9 | h9
      · exact absurd hpp (hper.2.2.2 p (by omega) (by show p < perC N es; omega))
      · exact h9
    exact ⟨j, e, hj2, h1.trans hj, he, hhead, hb1, hper.1, hper.2.1, hper.2.2.1, fun q h3 h4 => hper.2.2.2 q (by omega) h4, hp8⟩

theorem back_same {es : List GE} {la la' : Nat → Int} {v : Nat} (h : ∀ q, la' (itE es la v q) = la (itE es la v q)) (N p : Nat) :
    itE es la' v N = itE es la v N ∧ (∀ q, itE es la' (itE es la' v N) q = itE es la (itE es la v N) q) ∧ backE es la' (itE es la' v N) p = backE es la (itE es la v N) p := by
  have h1 := itE_same (es := es) (la := la) (la' := la') (v := v) h
  have h2 : ∀ q, itE es la' (itE es la' v N) q = itE es la (itE es la v N) q := fun q => by rw [← itE_add, ← itE_add, h1]
  refine ⟨h1 N, h2, ?_⟩
  unfold backE
  apply List.map_congr_left
  intro q _
  rw [h2 q, ← itE_add, h]

theorem cycR_len (n : Int) (es : List GE) : (cycR n es).length ≤ 8 := by
  unfold cycR
  split
  · next hok =>
    split
    · simp
    · next h =>
      have hr := okG_rng hok
      have hn : ((n.toNat : Nat) : Int) = n := by omega
      have hok' : okG (n.toNat : Int) es = true := by rw [hn]; exact hok
      obtain ⟨_, _, _, _, _, _, _, _, _, _, _, hp⟩ := cyc_facts hok' h
      rw [List.length_reverse, backE_length]; exact hp
  · simp
theorem cycR_no {n : Int} {es : List GE} (h : okG n es = false) : cycR n es = [] := by unfold cycR; rw [if_neg (by rw [h]; simp)]
theorem cycR_nil {N : Nat} {es : List GE} (h : (endC N es).2 = -1) : cycR N es = [] := by
  unfold cycR
  split
  · rw [if_pos (by simpa using h)]
  · rfl
theorem cycR_yes {N : Nat} {es : List GE} (hok : okG N es = true) (h : (endC N es).2 ≠ -1) : cycR N es = (backE es (endC N es).1.la (atC N es) (perC N es)).reverse := by
  unfold cycR
  rw [if_pos hok, if_neg (by simpa using h)]; simp

end Go.Proofs.Ytdjaiijgdflopaa
