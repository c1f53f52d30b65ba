/-
  PLAIN MATHEMATICS of the rounds: walks and their weights; what a round keeps; where nothing changes any more the numbers are shortest; the way back along last edges, where it comes round, has a negative weight.
  PLAIN MATHEMATICS of the rounds, on: the way back along last edges, where it comes round, has a negative weight; where the last round changed a number it comes round.
  PLAIN MATHEMATICS of the rounds, on: where the last round changed a number there is a closed walk of negative weight; the reported cycle is one.
  PLAIN MATHEMATICS of the rounds, on: the reported cycle is a negative cycle, by the document's own words.
  PLAIN MATHEMATICS of tables over small weights: the table of a graph is valid and closed and bounded by the edges; an edge added to the table gives the table of the graph with this edge.
  PLAIN MATHEMATICS of tables, on: the table of a graph is valid and closed; an edge added to the table gives the table of the graph with this edge.
-/
import Derived.Test.YteppmlepbfjnpaaBdGrY
import Derived.Test.YteppmlepbfjnpaaBdGrK
namespace Go.Proofs.Yteppmlepbfjnpaa
open Go.RowKit
set_option linter.unusedVariables false
set_option linter.unusedSimpArgs false

/-- A walk from i to v of weight x. -/
inductive Wk (es : List GE) : Nat → Nat → Int → Prop
  | nil (v : Nat) : Wk es v v 0
  | snoc {i u : Nat} {x : Int} (j : Nat) (e : GE) : Wk es i u x → es[j]? = some e → e.u.toNat = u → Wk es i e.v.toNat (x + e.c)
theorem Wk.append {es : List GE} {i u v : Nat} {x y : Int} (h : Wk es i u x) (k : Wk es u v y) : Wk es i v (x + y) := by
  induction k with
  | nil => simpa using h
  | snoc j e _ he hu ih => rw [← Int.add_assoc]; exact Wk.snoc j e ih he hu
theorem Wk.one {es : List GE} {j : Nat} {e : GE} (he : es[j]? = some e) : Wk es e.u.toNat e.v.toNat e.c := by
  have := Wk.snoc j e (Wk.nil e.u.toNat) he rfl
  simpa using this

/-- No weight is greater than this. -/
def Small (es : List GE) : Prop := ∀ (j : Nat) (e : GE), es[j]? = some e → -1000000 ≤ e.c ∧ e.c ≤ 1000000
def Bd (s : St) (M : Int) : Prop := ∀ v, -M ≤ s.nu v ∧ s.nu v ≤ M
theorem okG_small {n : Int} {es : List GE} (h : okG n es = true) : Small es := fun j e he => by have := (okG_edge h he).2.2; omega
theorem wrap_small {x : Int} (h : -9000000000000 ≤ x ∧ x ≤ 9000000000000) : wrap64 x = x := IntWalk.wrap64_in _ (by omega)
theorem sum_eq {es : List GE} {s : St} {M : Int} (hs : Small es) (hb : Bd s M) (hM : M ≤ 1000000000000) {j : Nat} {e : GE} (he : es[j]? = some e) : sumE s e = s.nu e.u.toNat + e.c := by
  unfold sumE
  have h1 := hb e.u.toNat
  have h2 := hs j e he
  exact wrap_small (by omega)
theorem upd_bd {es : List GE} {s : St} {M : Int} (hs : Small es) (hb : Bd s M) (h0 : 0 ≤ M) (hM : M ≤ 1000000000000) {j : Nat} {e : GE} (he : es[j]? = some e) : Bd (updE s j e) (M + 1000000) := by
  intro v
  show -(M + 1000000) ≤ upf s.nu e.v.toNat (sumE s e) v ∧ upf s.nu e.v.toNat (sumE s e) v ≤ M + 1000000
  rw [sum_eq hs hb hM he]
  unfold upf
  have h1 := hb e.u.toNat
  have h2 := hs j e he
  have h3 := hb v
  split <;> omega

/-- What a round keeps, edge by edge. -/
theorem pass_keep {es : List GE} {s : St} (P : Nat → St → Prop) (h0 : P 0 s) (hup : ∀ i s e, es[i]? = some e → P i s → lowE s e = true → P (i + 1) (updE s i e)) (hno : ∀ i s e, es[i]? = some e → P i s → lowE s e = false → P (i + 1) s) :
    ∀ i, i ≤ es.length → P i (passTo es s i).1 := by
  intro i
  induction i with
  | zero => exact fun _ => h0
  | succ i ih =>
    intro hi
    have hp := ih (by omega)
    obtain ⟨e, he⟩ : ∃ e, es[i]? = some e := ⟨_, List.getElem?_eq_getElem (by omega)⟩
    cases hl : lowE (passTo es s i).1 e with
    | true => rw [pass_low he hl]; exact hup i _ e he hp hl
    | false => rw [pass_not he hl]; exact hno i _ e he hp hl

theorem pass_bd {es : List GE} {s : St} {M : Int} (hs : Small es) (hb : Bd s M) (h0 : 0 ≤ M) (hM : M + 1000000 * (es.length : Int) ≤ 1000000000000) : Bd (passTo es s es.length).1 (M + 1000000 * (es.length : Int)) :=
  pass_keep (fun i s => Bd s (M + 1000000 * (i : Int)) ∧ i ≤ es.length) ⟨by simpa using hb, Nat.zero_le _⟩
    (fun i s e he ⟨h, hi⟩ hl => by
      have hlt : i < es.length := (List.getElem?_eq_some_iff.1 he).1
      have := upd_bd hs h (by omega) (by omega) he
      refine ⟨?_, hlt⟩
      rw [show M + 1000000 * ((i + 1 : Nat) : Int) = M + 1000000 * (i : Int) + 1000000 from by omega]
      exact this)
    (fun i s e he ⟨h, hi⟩ hl => by
      have hlt : i < es.length := (List.getElem?_eq_some_iff.1 he).1
      exact ⟨fun v => by have := h v; omega, hlt⟩) es.length (Nat.le_refl _) |>.1
theorem rounds_bd {es : List GE} {s : St} (hs : Small es) (hb : Bd s 0) (hk : es.length ≤ 80) : ∀ r, r ≤ 8 → Bd (roundsE es s r).1 (80000000 * (r : Int)) := by
  intro r
  induction r with
  | zero =>
    intro _
    show Bd s _
    simpa using hb
  | succ r ih =>
    intro hr
    have h1 := pass_bd hs (ih (by omega)) (by omega) (by omega)
    intro v
    have := h1 v
    show _ ≤ (passTo es (roundsE es s r).1 es.length).1.nu v ∧ (passTo es (roundsE es s r).1 es.length).1.nu v ≤ _
    omega

/-- Where a round changed nothing, no edge lowers a number. -/
theorem pass_stable {es : List GE} {s : St} (h : (passTo es s es.length).2 = -1) : ∀ (j : Nat) (e : GE), es[j]? = some e → lowE s e = false := by
  have hall : ∀ i, i ≤ es.length → (passTo es s i).2 = -1 → ∀ (j : Nat) (e : GE), j < i → es[j]? = some e → lowE s e = false := by
    intro i
    induction i with
    | zero => intro _ _ j e hj; omega
    | succ i ih =>
      intro hi hm j e hj he
      obtain ⟨e', he'⟩ : ∃ e, es[i]? = some e := ⟨_, List.getElem?_eq_getElem (by omega)⟩
      cases hl : lowE (passTo es s i).1 e' with
      | true => rw [pass_low he' hl] at hm; have h2 : (i : Int) = -1 := hm; omega
      | false =>
        rw [pass_not he' hl] at hm
        by_cases hji : j = i
        · subst hji
          have : e = e' := by rw [he] at he'; exact Option.some.inj he'
          subst this
          rw [pass_still es s j hm] at hl; exact hl
        · exact ih (by omega) hm j e (by omega) he
  intro j e he
  exact hall es.length (Nat.le_refl _) h j e (List.getElem?_eq_some_iff.1 he).1 he

/-- A state that no edge lowers, behind the rounds. -/
structure Fin (es : List GE) (i : Nat) (s : St) : Prop where
  st : ∀ (j : Nat) (e : GE), es[j]? = some e → s.kn e.u.toNat = true → s.kn e.v.toNat = true ∧ s.nu e.v.toNat ≤ s.nu e.u.toNat + e.c
  wk : ∀ v, s.kn v = true → Wk es i v (s.nu v)
  at_ : s.kn i = true
  le : s.nu i ≤ 0
theorem Fin.min {es : List GE} {i : Nat} {s : St} (h : Fin es i s) {v : Nat} {x : Int} (k : Wk es i v x) : s.kn v = true ∧ s.nu v ≤ x := by
  induction k with
  | nil => exact ⟨h.at_, h.le⟩
  | snoc j e k he hu ih =>
    obtain ⟨a, b⟩ := ih
    subst hu
    obtain ⟨c, d⟩ := h.st j e he a
    exact ⟨c, by omega⟩
theorem Fin.nonneg {es : List GE} {i : Nat} {s : St} (h : Fin es i s) {v : Nat} {x y : Int} (k : Wk es i v x) (c : Wk es v v y) : 0 ≤ y := by
  obtain ⟨a, _⟩ := h.min k
  have := (h.min ((h.wk v a).append c)).2
  omega
theorem Fin.zero {es : List GE} {i : Nat} {s : St} (h : Fin es i s) : s.nu i = 0 := by
  have h1 := h.nonneg (Wk.nil i) (h.wk i h.at_)
  have := h.le
  omega

theorem srcS_fin {N u : Nat} {es : List GE} (hok : okG N es = true) (hu : u < N) (h : (roundsE es (srcS u) N).2 = -1) : Fin es u (roundsE es (srcS u) N).1 := by
  have hs := okG_small hok
  have hk : es.length ≤ 80 := (okG_rng hok).2.2
  have hN8 := (okG_rng hok).2.1
  obtain ⟨m, rfl⟩ : ∃ m, N = m + 1 := ⟨N - 1, by omega⟩
  have hb0 : Bd (srcS u) 0 := fun v => by simp [srcS]
  have h1 : (roundsE es (srcS u) (m + 1)).1 = (roundsE es (srcS u) m).1 := pass_still es _ _ h
  have hst := pass_stable (s := (roundsE es (srcS u) m).1) h
  have hbd := rounds_bd hs hb0 hk m (by omega)
  have hinv : ∀ r, r ≤ 8 → (∀ v, (roundsE es (srcS u) r).1.kn v = true → Wk es u v ((roundsE es (srcS u) r).1.nu v)) ∧ (roundsE es (srcS u) r).1.kn u = true ∧ (roundsE es (srcS u) r).1.nu u ≤ 0 := by
    intro r
    induction r with
    | zero => exact fun _ => ⟨fun v hv => by
        have : v = u := by simpa [roundsE, srcS] using hv
        subst this; exact Wk.nil v, by simp [roundsE, srcS], by simp [roundsE, srcS]⟩
    | succ r ih =>
      intro hr
      obtain ⟨i1, i2, i3⟩ := ih (by omega)
      have hbr := rounds_bd hs hb0 hk r (by omega)
      have := pass_keep (es := es) (s := (roundsE es (srcS u) r).1)
        (fun i s => ((∀ v, s.kn v = true → Wk es u v (s.nu v)) ∧ s.kn u = true ∧ s.nu u ≤ 0) ∧ Bd s (80000000 * (r : Int) + 1000000 * (i : Int)) ∧ i ≤ es.length)
        ⟨⟨i1, i2, i3⟩, by simpa using hbr, Nat.zero_le _⟩
        (fun i s e he ⟨⟨a1, a2, a3⟩, hb, hi⟩ hl => by
          have hlt : i < es.length := (List.getElem?_eq_some_iff.1 he).1
          have hse := sum_eq hs hb (by omega) he
          have hbu := upd_bd hs hb (by omega) (by omega) he
          unfold lowE at hl
          rw [Bool.and_eq_true, Bool.or_eq_true] at hl
          obtain ⟨l1, l2⟩ := hl
          refine ⟨⟨fun v hv => ?_, ?_, ?_⟩, ?_, hlt⟩
          · by_cases hve : v = e.v.toNat
            · subst hve
              show Wk es u _ (upf s.nu e.v.toNat (sumE s e) e.v.toNat)
              rw [show upf s.nu e.v.toNat (sumE s e) e.v.toNat = sumE s e from by simp [upf], hse]
              exact Wk.snoc i e (a1 _ l1) he rfl
            · show Wk es u v (upf s.nu e.v.toNat (sumE s e) v)
              rw [show upf s.nu e.v.toNat (sumE s e) v = s.nu v from by simp [upf, hve]]
              exact a1 v (by simpa [updE, upf, hve] using hv)
          · show upf s.kn e.v.toNat true u = true
            unfold upf; split
            · rfl
            · exact a2
          · show upf s.nu e.v.toNat (sumE s e) u ≤ 0
            unfold upf; split
            · next hue =>
              rcases l2 with l2 | l2
              · rw [← hue, a2] at l2; simp at l2
              · have := of_decide_eq_true l2; rw [← hue] at this; omega
            · exact a3
          · rw [show 80000000 * (r : Int) + 1000000 * ((i + 1 : Nat) : Int) = 80000000 * (r : Int) + 1000000 * (i : Int) + 1000000 from by omega]; exact hbu)
        (fun i s e he ⟨a, hb, hi⟩ hl => by
          have hlt : i < es.length := (List.getElem?_eq_some_iff.1 he).1
          exact ⟨a, fun v => by have := hb v; omega, hlt⟩) es.length (Nat.le_refl _)
      exact this.1
  obtain ⟨i1, i2, i3⟩ := hinv m (by omega)
  rw [h1]
  refine ⟨fun j e he hk => ?_, i1, i2, i3⟩
  have hl := hst j e he
  have hse := sum_eq hs hbd (by omega) he
  unfold lowE at hl
  rw [hk, Bool.true_and, Bool.or_eq_false_iff] at hl
  rw [hse] at hl
  exact ⟨by simpa using hl.1, by have := of_decide_eq_false hl.2; omega⟩

end Go.Proofs.Yteppmlepbfjnpaa

namespace Go.Proofs.Yteppmlepbfjnpaa
open Go.RowKit
set_option linter.unusedVariables false
set_option linter.unusedSimpArgs false

/-- The weight of m steps of the way back from x. -/
def wtB (es : List GE) (la : Nat → Int) (x : Nat) : Nat → Int
  | 0 => 0
  | m + 1 => wtB es la x m + (edE es (la (itE es la x m))).c
theorem wtB_add (es : List GE) (la : Nat → Int) (x a b : Nat) : wtB es la x (a + b) = wtB es la x a + wtB es la (itE es la x a) b := by
  induction b with
  | zero => simp [wtB]
  | succ b ih =>
    show wtB es la x (a + b) + (edE es (la (itE es la x (a + b)))).c = wtB es la x a + (wtB es la (itE es la x a) b + (edE es (la (itE es la (itE es la x a) b))).c)
    rw [ih, itE_add]; omega
theorem itE_one (es : List GE) (la : Nat → Int) (x : Nat) : itE es la x 1 = (edE es (la x)).u.toNat := rfl

/-- What the rounds keep, by edge i of round r: t tells in which round a node was changed last (0: not at all). -/
structure Inv (es : List GE) (r i : Nat) (s : St) (t : Nat → Nat) : Prop where
  le : ∀ v, t v ≤ r
  la : ∀ v, 1 ≤ t v → ∃ (j : Nat) (e : GE), s.la v = (j : Int) ∧ es[j]? = some e ∧ e.v.toNat = v ∧ t v ≤ t e.u.toNat + 1 ∧ s.kn v = true ∧ s.kn e.u.toNat = true ∧ s.nu e.u.toNat + e.c ≤ s.nu v
  ex : ∀ (j : Nat) (e : GE), es[j]? = some e → lowE s e = false ∨ (if j < i then r ≤ t e.u.toNat else r ≤ t e.u.toNat + 1)
  neg : ∀ x m, 0 < m → (∀ q, q < m → 1 ≤ t (itE es s.la x q)) → itE es s.la x m = x → (∀ q, 0 < q → q < m → itE es s.la x q ≠ x) → wtB es s.la x m < 0

theorem low_split {s : St} {e : GE} (h : lowE s e = true) : s.kn e.u.toNat = true ∧ (s.kn e.v.toNat = true → sumE s e < s.nu e.v.toNat) := by
  unfold lowE at h
  rw [Bool.and_eq_true, Bool.or_eq_true] at h
  refine ⟨h.1, fun hk => ?_⟩
  rcases h.2 with h2 | h2
  · rw [hk] at h2; simp at h2
  · exact of_decide_eq_true h2
theorem low_not {s : St} {e : GE} (h : lowE s e = false) (hu : s.kn e.u.toNat = true) : s.kn e.v.toNat = true ∧ ¬ sumE s e < s.nu e.v.toNat := by
  unfold lowE at h
  rw [hu, Bool.true_and, Bool.or_eq_false_iff] at h
  exact ⟨by simpa using h.1, of_decide_eq_false h.2⟩

/-- The way back among nodes that have a last edge: the numbers bound its weight. -/
theorem Inv.chain {es : List GE} {r i : Nat} {s : St} {t : Nat → Nat} (h : Inv es r i s t) (x : Nat) : ∀ m, (∀ q, q < m → 1 ≤ t (itE es s.la x q)) → s.nu (itE es s.la x m) + wtB es s.la x m ≤ s.nu x ∧ (0 < m → s.kn (itE es s.la x m) = true) := by
  intro m
  induction m with
  | zero => exact fun _ => ⟨by show s.nu x + 0 ≤ s.nu x; omega, fun h => by omega⟩
  | succ m ih =>
    intro hq
    obtain ⟨a, _⟩ := ih (fun q h => hq q (by omega))
    obtain ⟨j, e, h1, h2, h3, h4, h5, h6, h7⟩ := h.la _ (hq m (by omega))
    have hx : itE es s.la x (m + 1) = e.u.toNat := by show nxE es s.la _ = _; unfold nxE; rw [h1, edE_at es h2]
    have hw : wtB es s.la x (m + 1) = wtB es s.la x m + e.c := by show _ + (edE es (s.la _)).c = _; rw [h1, edE_at es h2]
    rw [hx, hw]
    exact ⟨by omega, fun _ => h6⟩
theorem Inv.walk {es : List GE} {r i : Nat} {s : St} {t : Nat → Nat} (h : Inv es r i s t) (x : Nat) : ∀ m, (∀ q, q < m → 1 ≤ t (itE es s.la x q)) → Wk es (itE es s.la x m) x (wtB es s.la x m) := by
  intro m
  induction m with
  | zero => exact fun _ => Wk.nil x
  | succ m ih =>
    intro hq
    have k := ih (fun q h => hq q (by omega))
    obtain ⟨j, e, h1, h2, h3, h4, h5, h6, h7⟩ := h.la _ (hq m (by omega))
    have hx : itE es s.la x (m + 1) = e.u.toNat := by show nxE es s.la _ = _; unfold nxE; rw [h1, edE_at es h2]
    have hw : wtB es s.la x (m + 1) = wtB es s.la x m + e.c := by show _ + (edE es (s.la _)).c = _; rw [h1, edE_at es h2]
    rw [hx, hw, Int.add_comm]
    have h8 := Wk.one h2
    rw [h3] at h8
    exact h8.append k

/-- On the same ways the changed state's way back is the old one, as long as it does not meet the changed node. -/
theorem it_other {es : List GE} {la : Nat → Int} {v : Nat} {y : Int} (x : Nat) : ∀ m, (∀ q, q < m → itE es (upf la v y) x q ≠ v) → itE es (upf la v y) x m = itE es la x m ∧ wtB es (upf la v y) x m = wtB es la x m := by
  intro m
  induction m with
  | zero => exact fun _ => ⟨rfl, rfl⟩
  | succ m ih =>
    intro hq
    obtain ⟨a, b⟩ := ih (fun q h => hq q (by omega))
    have hne : itE es la x m ≠ v := by rw [← a]; exact hq m (by omega)
    have hu : upf la v y (itE es la x m) = la (itE es la x m) := by simp [upf, hne]
    constructor
    · show nxE es (upf la v y) _ = nxE es la _
      rw [a]; unfold nxE; rw [hu]
    · show wtB es (upf la v y) x m + (edE es (upf la v y _)).c = wtB es la x m + (edE es (la _)).c
      rw [a, b, hu]

/-- A way that comes round to x comes round to each of its nodes, by as many steps, with the same weight. -/
theorem turn {es : List GE} {la : Nat → Int} {x m q : Nat} (hm : itE es la x m = x) (hq : q ≤ m) : itE es la (itE es la x q) m = itE es la x q ∧ wtB es la (itE es la x q) m = wtB es la x m := by
  have e1 : itE es la x (q + m) = itE es la x q := by rw [Nat.add_comm, itE_add, hm]
  refine ⟨by rw [← itE_add]; exact e1, ?_⟩
  have h1 := wtB_add es la x q m
  have h2 := wtB_add es la x m q
  rw [hm] at h2
  rw [Nat.add_comm] at h2
  omega
theorem turn_least {es : List GE} {la : Nat → Int} {x m q : Nat} (hm : itE es la x m = x) (hq : q ≤ m) (hl : ∀ p, 0 < p → p < m → itE es la x p ≠ x) : ∀ p, 0 < p → p < m → itE es la (itE es la x q) p ≠ itE es la x q := by
  intro p h1 h2 he
  apply hl p h1 h2
  have e1 : itE es la (itE es la x q) (m - q) = x := by rw [← itE_add, show q + (m - q) = m from by omega]; exact hm
  have e2 : itE es la x p = itE es la (itE es la x q) (m - q + p) := by rw [itE_add, e1]
  rw [e2, Nat.add_comm, itE_add, he, e1]

theorem Inv.step {es : List GE} {r i : Nat} {s : St} {t : Nat → Nat} {M : Int} (h : Inv es r i s t) (hs : Small es) (hb : Bd s M) (h0 : 0 ≤ M) (hM : M ≤ 1000000000000) (hr1 : 1 ≤ r) {e : GE} (he : es[i]? = some e) :
    (lowE s e = true → Inv es r (i + 1) (updE s i e) (upf t e.v.toNat r)) ∧ (lowE s e = false → Inv es r (i + 1) s t) := by
  have hse := sum_eq hs hb hM he
  constructor
  · intro hl
    obtain ⟨hku, hlt⟩ := low_split hl
    have hri : r ≤ t e.u.toNat + 1 := by
      rcases h.ex i e he with h2 | h2
      · rw [hl] at h2; simp at h2
      · rw [if_neg (by omega)] at h2; exact h2
    have hmono : ∀ v, t v ≤ upf t e.v.toNat r v := by
      intro v; unfold upf; split
      · exact h.le v
      · exact Nat.le_refl _
    have hnu : ∀ y, (updE s i e).nu y = if y = e.v.toNat then sumE s e else s.nu y := fun y => rfl
    have hkn : ∀ y, (updE s i e).kn y = if y = e.v.toNat then true else s.kn y := fun y => rfl
    have hla' : (updE s i e).la = upf s.la e.v.toNat (i : Int) := rfl
    have hlav : upf s.la e.v.toNat (i : Int) e.v.toNat = (i : Int) := by simp [upf]
    have htv : upf t e.v.toNat r e.v.toNat = r := by simp [upf]
    have hto : ∀ y, y ≠ e.v.toNat → upf t e.v.toNat r y = t y := fun y hy => by simp [upf, hy]
    -- the numbers of the known do not grow
    have hdec : ∀ y, s.kn y = true → (updE s i e).nu y ≤ s.nu y := by
      intro y hy
      rw [hnu]
      split
      · next hye => subst hye; exact Int.le_of_lt (hlt hy)
      · exact Int.le_refl _
    refine ⟨?_, ?_, ?_, ?_⟩
    · intro v; unfold upf; split
      · exact Nat.le_refl _
      · exact h.le v
    · intro v hv1
      by_cases hve : v = e.v.toNat
      · subst hve
        refine ⟨i, e, by rw [hla', hlav], he, rfl, by rw [htv]; have := hmono e.u.toNat; omega, by rw [hkn, if_pos rfl], ?_, ?_⟩
        · rw [hkn]; split
          · rfl
          · exact hku
        · have h2 := hdec e.u.toNat hku
          rw [hnu e.v.toNat, if_pos rfl, hse]; omega
      · rw [hto v hve] at hv1
        obtain ⟨j, e', a1, a2, a3, a4, a5, a6, a7⟩ := h.la v hv1
        refine ⟨j, e', by rw [hla']; simp [upf, hve, a1], a2, a3, by rw [hto v hve]; have := hmono e'.u.toNat; omega, by rw [hkn, if_neg hve]; exact a5, ?_, ?_⟩
        · rw [hkn]; split
          · rfl
          · exact a6
        · have h2 := hdec e'.u.toNat a6
          rw [hnu v, if_neg hve]; omega
    · intro j e' he'
      by_cases hue : e'.u.toNat = e.v.toNat
      · right
        rw [hue, htv]; split <;> omega
      · rw [hto _ hue]
        rcases h.ex j e' he' with h2 | h2
        · left
          cases hk : s.kn e'.u.toNat with
          | false => unfold lowE; rw [hkn, if_neg hue, hk]; rfl
          | true =>
            obtain ⟨b1, b2⟩ := low_not h2 hk
            have hse' : sumE (updE s i e) e' = sumE s e' := by unfold sumE; rw [hnu, if_neg hue]
            have h3 := hdec e'.v.toNat b1
            unfold lowE
            rw [hse', hkn, if_neg hue, hk, Bool.true_and, Bool.or_eq_false_iff]
            refine ⟨?_, decide_eq_false (by omega)⟩
            rw [hkn]; split
            · rfl
            · rw [b1]; rfl
        · by_cases hji : j = i
          · subst hji
            have : e' = e := by rw [he] at he'; exact (Option.some.inj he').symm
            subst this
            left
            have hse' : sumE (updE s j e') e' = sumE s e' := by unfold sumE; rw [hnu, if_neg hue]
            unfold lowE
            rw [hse', hkn e'.v.toNat, if_pos rfl, hnu e'.v.toNat, if_pos rfl]
            simp
          · right
            by_cases hlt2 : j < i
            · rw [if_pos hlt2] at h2; rw [if_pos (by omega)]; exact h2
            · rw [if_neg hlt2] at h2; rw [if_neg (by omega)]; exact h2
    · rw [hla']
      intro x m hm ht hx hl2
      by_cases hmeet : ∃ q, q < m ∧ itE es (upf s.la e.v.toNat (i : Int)) x q = e.v.toNat
      · obtain ⟨q, hq, hqv⟩ := hmeet
        -- the way is turned to begin at the changed node
        obtain ⟨c1, c2⟩ := turn hx (Nat.le_of_lt hq)
        have c3 := turn_least hx (Nat.le_of_lt hq) hl2
        have c4 : ∀ p, 1 ≤ upf t e.v.toNat r (itE es (upf s.la e.v.toNat (i : Int)) e.v.toNat p) ∨ m ≤ p := by
          intro p
          by_cases hp : p < m
          · left
            have e5 : itE es (upf s.la e.v.toNat (i : Int)) e.v.toNat p = itE es (upf s.la e.v.toNat (i : Int)) x (q + p) := by rw [itE_add, hqv]
            rw [e5]
            by_cases hw : q + p < m
            · exact ht _ hw
            · rw [show q + p = m + (q + p - m) from by omega, itE_add, hx]; exact ht _ (by omega)
          · exact .inr (by omega)
        rw [hqv] at c1 c2 c3
        rw [← c2]
        obtain ⟨m', rfl⟩ : ∃ m', m = m' + 1 := ⟨m - 1, by omega⟩
        have hfirst : itE es (upf s.la e.v.toNat (i : Int)) e.v.toNat 1 = e.u.toNat := by rw [itE_one, hlav, edE_at es he]
        have hrest : ∀ p, p ≤ m' → itE es (upf s.la e.v.toNat (i : Int)) e.v.toNat (1 + p) = itE es s.la e.u.toNat p ∧ wtB es (upf s.la e.v.toNat (i : Int)) e.v.toNat (1 + p) = e.c + wtB es s.la e.u.toNat p := by
          intro p hp
          have hoth := it_other (es := es) (la := s.la) (v := e.v.toNat) (y := (i : Int)) e.u.toNat p (fun q' hq' => by
            rw [← hfirst, ← itE_add]; exact c3 (1 + q') (by omega) (by omega))
          refine ⟨by rw [itE_add, hfirst]; exact hoth.1, ?_⟩
          rw [wtB_add, hfirst, hoth.2]
          show (0 : Int) + (edE es (upf s.la e.v.toNat (i : Int) e.v.toNat)).c + _ = _
          rw [hlav, edE_at es he]; omega
        have hr2 := hrest m' (Nat.le_refl _)
        rw [Nat.add_comm 1 m'] at hr2
        have hend : itE es s.la e.u.toNat m' = e.v.toNat := by rw [← hr2.1]; exact c1
        rw [hr2.2]
        have hch := h.chain e.u.toNat m' (fun p hp => by
          have h4 := (hrest p (by omega)).1
          rw [← h4]
          have hne : itE es (upf s.la e.v.toNat (i : Int)) e.v.toNat (1 + p) ≠ e.v.toNat := c3 (1 + p) (by omega) (by omega)
          rcases c4 (1 + p) with h5 | h5
          · rw [hto _ hne] at h5; exact h5
          · omega)
        rw [hend] at hch
        have hkv : s.kn e.v.toNat = true := by
          by_cases hm0 : m' = 0
          · subst hm0
            have : e.u.toNat = e.v.toNat := hend
            rw [← this]; exact hku
          · exact hch.2 (by omega)
        have := hlt hkv
        omega
      · have hno : ∀ q, q < m → itE es (upf s.la e.v.toNat (i : Int)) x q ≠ e.v.toNat := fun q hq he => hmeet ⟨q, hq, he⟩
        have hsame : ∀ q, q ≤ m → itE es (upf s.la e.v.toNat (i : Int)) x q = itE es s.la x q ∧ wtB es (upf s.la e.v.toNat (i : Int)) x q = wtB es s.la x q := fun q hq => it_other x q (fun q' h' => hno q' (by omega))
        rw [(hsame m (Nat.le_refl _)).2]
        refine h.neg x m hm (fun q hq => ?_) (by rw [← (hsame m (Nat.le_refl _)).1]; exact hx) (fun q h1 h2 => by rw [← (hsame q (by omega)).1]; exact hl2 q h1 h2)
        have h5 := ht q hq
        rw [hto _ (hno q hq)] at h5
        rw [← (hsame q (by omega)).1]; exact h5
  · intro hl
    refine ⟨h.le, h.la, fun j e' he' => ?_, h.neg⟩
    by_cases hji : j = i
    · subst hji
      have : e' = e := by rw [he] at he'; exact (Option.some.inj he').symm
      subst this
      exact .inl hl
    · rcases h.ex j e' he' with h2 | h2
      · exact .inl h2
      · right
        by_cases hlt2 : j < i
        · rw [if_pos hlt2] at h2; rw [if_pos (by omega)]; exact h2
        · rw [if_neg hlt2] at h2; rw [if_neg (by omega)]; exact h2

end Go.Proofs.Yteppmlepbfjnpaa

namespace Go.Proofs.Yteppmlepbfjnpaa
open Go.RowKit
set_option linter.unusedVariables false
set_option linter.unusedSimpArgs false

theorem Inv.start (es : List GE) (s : St) : Inv es 1 0 s (fun _ => 0) :=
  ⟨fun v => Nat.zero_le _, fun v h => by omega, fun j e he => .inr (by rw [if_neg (by omega)]; omega), fun x m hm ht _ _ => by have := ht 0 hm; omega⟩
theorem Inv.next {es : List GE} {r : Nat} {s : St} {t : Nat → Nat} (w : Inv es r es.length s t) : Inv es (r + 1) 0 s t := by
  refine ⟨fun v => Nat.le_succ_of_le (w.le v), w.la, fun j e he => ?_, w.neg⟩
  rcases w.ex j e he with h | h
  · exact .inl h
  · right
    have : j < es.length := (List.getElem?_eq_some_iff.1 he).1
    rw [if_pos this] at h
    rw [if_neg (by omega)]; omega
theorem Inv.pass {es : List GE} {r : Nat} {s : St} {t : Nat → Nat} {M : Int} (w : Inv es r 0 s t) (hs : Small es) (hb : Bd s M) (h0 : 0 ≤ M) (hM : M + 1000000 * (es.length : Int) ≤ 1000000000000) (hr : 1 ≤ r) :
    ∀ i, i ≤ es.length → ∃ t', Inv es r i (passTo es s i).1 t' ∧ Bd (passTo es s i).1 (M + 1000000 * (i : Int)) ∧ (∀ (j : Nat) (e : GE), (passTo es s i).2 = (j : Int) → es[j]? = some e → t' e.v.toNat = r) := by
  intro i
  induction i with
  | zero => exact fun _ => ⟨t, w, by show Bd s _; simpa using hb, fun j e h _ => by have h2 : (-1 : Int) = (j : Int) := h; omega⟩
  | succ i ih =>
    intro hi
    obtain ⟨t', w', hb', h2⟩ := ih (by omega)
    obtain ⟨e, he⟩ : ∃ e, es[i]? = some e := ⟨_, List.getElem?_eq_getElem (by omega)⟩
    have hst := w'.step hs hb' (by omega) (by omega) hr he
    cases hl : lowE (passTo es s i).1 e with
    | true =>
      rw [pass_low he hl]
      refine ⟨_, hst.1 hl, ?_, fun j e' h hj => ?_⟩
      · have := upd_bd hs hb' (by omega) (by omega) he
        rw [show M + 1000000 * ((i + 1 : Nat) : Int) = M + 1000000 * (i : Int) + 1000000 from by omega]
        exact this
      · have hij : i = j := by have h3 : (i : Int) = (j : Int) := h; omega
        subst hij
        have : e' = e := by rw [he] at hj; exact (Option.some.inj hj).symm
        subst this
        simp [upf]
    | false =>
      rw [pass_not he hl]
      exact ⟨t', hst.2 hl, fun v => by have := hb' v; omega, h2⟩
theorem Inv.rounds {es : List GE} {s : St} (hs : Small es) (hb : Bd s 0) (hk : es.length ≤ 80) : ∀ r, r ≤ 8 → ∃ t, Inv es (r + 1) 0 (roundsE es s r).1 t ∧ (∀ (j : Nat) (e : GE), (roundsE es s r).2 = (j : Int) → es[j]? = some e → t e.v.toNat = r) := by
  intro r
  induction r with
  | zero => exact fun _ => ⟨fun _ => 0, Inv.start es s, fun j e h _ => by have h2 : (-1 : Int) = (j : Int) := h; omega⟩
  | succ r ih =>
    intro hr
    obtain ⟨t, w, _⟩ := ih (by omega)
    have hbr := rounds_bd hs hb hk r (by omega)
    obtain ⟨t', w', _, h4⟩ := w.pass hs hbr (by omega) (by omega) (by omega) es.length (Nat.le_refl _)
    exact ⟨t', w'.next, h4⟩

theorem Inv.back {es : List GE} {n r i : Nat} {s : St} {t : Nat → Nat} (w : Inv es r i s t) (hes : ∀ (j : Nat) (e : GE), es[j]? = some e → e.u.toNat < n ∧ e.v.toNat < n) {v : Nat} (hv : v < n) (ht : n ≤ t v) :
    (∀ k, itE es s.la v k < n ∧ 1 ≤ t (itE es s.la v k)) ∧ (∃ p, 0 < p ∧ p ≤ n ∧ itE es s.la (itE es s.la v n) p = itE es s.la v n) := by
  have hk : ∀ k, k ≤ n → itE es s.la v k < n ∧ n ≤ t (itE es s.la v k) + k := by
    intro k
    induction k with
    | zero => exact fun _ => ⟨hv, ht⟩
    | succ k ih =>
      intro hkn
      obtain ⟨h1, h2⟩ := ih (by omega)
      obtain ⟨j, e, a1, a2, a3, a4, _⟩ := w.la (itE es s.la v k) (by omega)
      have hx : itE es s.la v (k + 1) = e.u.toNat := by
        show nxE es s.la _ = _
        unfold nxE; rw [a1, edE_at es a2]
      rw [hx]
      exact ⟨(hes j e a2).1, by omega⟩
  obtain ⟨a, b, hab, hbn, hf⟩ := pigeon n (itE es s.la v) (fun k h => (hk k h).1)
  have hper : ∀ m, itE es s.la v (a + m + (b - a)) = itE es s.la v (a + m) := by
    intro m
    rw [show a + m + (b - a) = b + m from by omega, itE_add, itE_add, hf]
  have hall : ∀ k, ∃ k', k' < n ∧ itE es s.la v k = itE es s.la v k' := by
    intro k
    induction k using Nat.strongRecOn with
    | _ k ih =>
      by_cases hkb : k < b
      · exact ⟨k, by omega, rfl⟩
      · have hp := hper (k - b)
        rw [show a + (k - b) + (b - a) = k from by omega] at hp
        obtain ⟨k', h1, h2⟩ := ih (a + (k - b)) (by omega)
        exact ⟨k', h1, hp.trans h2⟩
  constructor
  · intro k
    obtain ⟨k', h1, h2⟩ := hall k
    rw [h2]
    obtain ⟨h3, h4⟩ := hk k' (by omega)
    exact ⟨h3, by omega⟩
  · refine ⟨b - a, by omega, by omega, ?_⟩
    rw [← itE_add]
    have := hper (n - a)
    rw [show a + (n - a) = n from by omega] at this
    exact this

/-- A changed last round leaves a closed walk of negative weight. -/
theorem neg_walk {N : Nat} {es : List GE} {s : St} (hok : okG N es = true) (hb : Bd s 0) (h : (roundsE es s N).2 ≠ -1) : ∃ x y, Wk es x x y ∧ y < 0 ∧ x < N := by
  have hk : es.length ≤ 80 := (okG_rng hok).2.2
  have hN8 := (okG_rng hok).2.1
  have hes := okG_nodes hok
  obtain ⟨t, w, h2⟩ := Inv.rounds (okG_small hok) hb hk N (by omega)
  rcases rounds_rng es s N with hr | ⟨j, e, hj, he⟩
  · exact absurd hr h
  · have htv := h2 j e hj he
    obtain ⟨hall, p, hp0, hpN, hpp⟩ := w.back hes (v := e.v.toNat) (hes j e he).2 (by omega)
    have hper := perE_spec (es := es) (la := (roundsE es s N).1.la) (x := itE es (roundsE es s N).1.la e.v.toNat N) 8 1 ⟨p, by omega, by omega, hpp⟩
    have h1 : ∀ q, 1 ≤ t (itE es (roundsE es s N).1.la (itE es (roundsE es s N).1.la e.v.toNat N) q) := fun q => by rw [← itE_add]; exact (hall _).2
    have hneg := w.neg _ _ hper.1 (fun q _ => h1 q) hper.2.2.1 (fun q h3 h4 => hper.2.2.2 q (by omega) h4)
    have hwk := w.walk (itE es (roundsE es s N).1.la e.v.toNat N) (perE es (roundsE es s N).1.la (itE es (roundsE es s N).1.la e.v.toNat N) 8 1) (fun q _ => h1 q)
    rw [hper.2.2.1] at hwk
    exact ⟨_, _, hwk, hneg, (hall N).1⟩

/-- Where a round over all nodes at 0 changed nothing, no closed walk is negative. -/
theorem pot_nonneg {N : Nat} {es : List GE} (hok : okG N es = true) (h : (endC N es).2 = -1) {x : Nat} {y : Int} (hx : x < N) (c : Wk es x x y) : 0 ≤ y := by
  have hs := okG_small hok
  have hk : es.length ≤ 80 := (okG_rng hok).2.2
  have hN8 := (okG_rng hok).2.1
  have hes := okG_nodes hok
  have hb0 : Bd (s0C N (-1)) 0 := fun v => by simp [s0C]
  obtain ⟨m, rfl⟩ : ∃ m, N = m + 1 := ⟨N - 1, by omega⟩
  have hst := pass_stable (s := (roundsE es (s0C (m + 1) (-1)) m).1) h
  have hbd := rounds_bd hs hb0 hk m (by omega)
  have hkn : ∀ r v, v < m + 1 → (roundsE es (s0C (m + 1) (-1)) r).1.kn v = true := by
    intro r
    induction r with
    | zero => exact fun v hv => decide_eq_true hv
    | succ r ih =>
      exact pass_keep (es := es) (s := (roundsE es (s0C (m + 1) (-1)) r).1) (fun _ s => ∀ v, v < m + 1 → s.kn v = true) ih
        (fun i s e he hp hl v hv => by show upf s.kn _ _ v = true; unfold upf; split; · rfl
                                       · exact hp v hv)
        (fun i s e he hp hl => hp) es.length (Nat.le_refl _)
  have hpot : ∀ {u v : Nat} {z : Int}, Wk es u v z → u < m + 1 → v < m + 1 ∧ (roundsE es (s0C (m + 1) (-1)) m).1.nu v ≤ (roundsE es (s0C (m + 1) (-1)) m).1.nu u + z := by
    intro u v z k
    induction k with
    | nil => exact fun h => ⟨h, by omega⟩
    | snoc j e k he hu ih =>
      intro h
      obtain ⟨a, b⟩ := ih h
      subst hu
      have hl := low_not (hst j e he) (hkn m _ a)
      rw [sum_eq hs hbd (by omega) he] at hl
      exact ⟨(hes j e he).2, by omega⟩
  have := (hpot c hx).2
  omega

theorem cyc_neg {N : Nat} {es : List GE} (hok : okG N es = true) (h : (endC N es).2 ≠ -1) : wtB es (endC N es).1.la (atC N es) (perC N es) < 0 := by
  have hk : es.length ≤ 80 := (okG_rng hok).2.2
  have hN8 := (okG_rng hok).2.1
  have hes := okG_nodes hok
  obtain ⟨j, e, hj, _, he, hhead, _, hp0, _, hper, hmin, _⟩ := cyc_facts hok h
  obtain ⟨t, w, h2⟩ := Inv.rounds (s := s0C N (-1)) (okG_small hok) (fun v => by simp [s0C]) hk N (by omega)
  have htv := h2 j e hj he
  obtain ⟨hall, _⟩ := w.back hes (v := e.v.toNat) (hes j e he).2 (by omega)
  have hat : atC N es = itE es (roundsE es (s0C N (-1)) N).1.la e.v.toNat N := by unfold atC; rw [hhead]; rfl
  refine w.neg _ _ hp0 (fun q _ => ?_) hper hmin
  rw [hat, ← itE_add]
  exact (hall _).2

end Go.Proofs.Yteppmlepbfjnpaa

namespace Go.Proofs.Yteppmlepbfjnpaa
open Go.RowKit
set_option linter.unusedVariables false
set_option linter.unusedSimpArgs false

theorem sumTo_eq (es : List GE) (zs : List Int) : ∀ j, j ≤ zs.length → sumTo es zs j = ((zs.take j).map (wtE es)).sum := by
  intro j
  induction j with
  | zero => intro _; simp [sumTo]
  | succ j ih =>
    intro hj
    have h : zs.take (j + 1) = zs.take j ++ [zs[j]'(by omega)] := by rw [List.take_add_one, List.getElem?_eq_getElem (by omega)]; rfl
    show sumTo es zs j + (match zs[j]? with | some z => wtE es z | none => 0) = _
    rw [ih (by omega), h, List.map_append, List.sum_append, List.getElem?_eq_getElem (by omega)]
    simp only [List.map_cons, List.map_nil, List.sum_cons, List.sum_nil, Int.add_zero]
theorem sumTo_all (es : List GE) (zs : List Int) : sumTo es zs zs.length = (zs.map (wtE es)).sum := by
  rw [sumTo_eq es zs _ (Nat.le_refl _), List.take_length]
theorem backE_sum {es : List GE} {la : Nat → Int} {x : Nat} (h : ∀ q, ∃ (j : Nat) (e : GE), la (itE es la x q) = (j : Int) ∧ es[j]? = some e) : ∀ m, ((backE es la x m).map (wtE es)).sum = wtB es la x m := by
  intro m
  induction m with
  | zero => simp [backE, wtB]
  | succ m ih =>
    rw [backE_succ, List.map_append, List.sum_append, ih]
    obtain ⟨j, e, h1, h2⟩ := h m
    show wtB es la x m + _ = wtB es la x m + (edE es (la (itE es la x m))).c
    rw [h1, edE_at es h2]
    simp [wtE, h2]
theorem backE_at (es : List GE) (la : Nat → Int) (x m q : Nat) (h : q < m) : (backE es la x m)[q]? = some (la (itE es la x q)) := by
  simp [backE, h]

/-- The cycle of the way back is a closed walk of edges. -/
theorem back_closed {N : Nat} {es : List GE} {la : Nat → Int} {x p : Nat} (hok : okG N es = true) (hp : 0 < p) (hx : itE es la x p = x) (h : ∀ q, ∃ (j : Nat) (e : GE), la (itE es la x q) = (j : Int) ∧ es[j]? = some e ∧ e.v.toNat = itE es la x q) :
    closedTo es (backE es la x p).reverse p = true := by
  have hl : (backE es la x p).length = p := backE_length _ _ _ _
  have hz : ∀ j, j < p → (backE es la x p).reverse[j]? = some (la (itE es la x (p - 1 - j))) := fun j hj => by
    rw [List.getElem?_reverse (by omega), hl, backE_at _ _ _ _ _ (by omega)]
  have hnx : ∀ q (j : Nat) (e : GE), la (itE es la x q) = (j : Int) → es[j]? = some e → itE es la x (q + 1) = e.u.toNat := fun q j e h1 h2 => by
    show nxE es la _ = _; unfold nxE; rw [h1, edE_at es h2]
  have key : ∀ j, j < p → linkE es (backE es la x p).reverse j = true := by
    intro j hj
    obtain ⟨j1, e1, a1, a2, a3⟩ := h (p - 1 - j)
    -- the edge before
    obtain ⟨q, hq, hqe⟩ : ∃ q, (backE es la x p).reverse[(j + p - 1) % p]? = some (la (itE es la x q)) ∧ itE es la x q = itE es la x (p - 1 - j + 1) := by
      by_cases h0 : j = 0
      · subst h0
        refine ⟨0, ?_, ?_⟩
        · rw [show (0 + p - 1) % p = p - 1 from by rw [Nat.zero_add]; exact Nat.mod_eq_of_lt (by omega), hz _ (by omega), show p - 1 - (p - 1) = 0 from by omega]
        · rw [show p - 1 - 0 + 1 = p from by omega, hx]; rfl
      · refine ⟨p - 1 - j + 1, ?_, rfl⟩
        have : (j + p - 1) % p = j - 1 := by
          rw [show j + p - 1 = (j - 1) + p from by omega, Nat.add_mod_right]; exact Nat.mod_eq_of_lt (by omega)
        rw [this, hz _ (by omega), show p - 1 - (j - 1) = p - 1 - j + 1 from by omega]
    obtain ⟨j2, e2, b1, b2, b3⟩ := h q
    rw [link_eq es _ (by simpa using hl) (hz j hj) hq, a1, b1]
    have i1 : inE es (j1 : Int) = true := by unfold inE; exact decide_eq_true ⟨by omega, by have := (List.getElem?_eq_some_iff.1 a2).1; omega⟩
    have i2 : inE es (j2 : Int) = true := by unfold inE; exact decide_eq_true ⟨by omega, by have := (List.getElem?_eq_some_iff.1 b2).1; omega⟩
    rw [i1, i2, edE_at es a2, edE_at es b2]
    have h1 := hnx _ j1 e1 a1 a2
    have g1 := okG_edge hok a2
    have g2 := okG_edge hok b2
    have : e2.v = e1.u := by omega
    simp [this]
  have : ∀ j, j ≤ p → closedTo es (backE es la x p).reverse j = true := by
    intro j
    induction j with
    | zero => exact fun _ => rfl
    | succ j ih => exact fun hj => closedTo_next es _ (key j (by omega)) (ih (by omega))
  exact this p (Nat.le_refl _)

theorem cyc_path {N : Nat} {es : List GE} (hok : okG N es = true) (h : (endC N es).2 ≠ -1) :
    ∀ q, ∃ (j : Nat) (e : GE), (endC N es).1.la (itE es (endC N es).1.la (atC N es) q) = (j : Int) ∧ es[j]? = some e ∧ e.v.toNat = itE es (endC N es).1.la (atC N es) q := by
  have hk : es.length ≤ 80 := (okG_rng hok).2.2
  have hN8 := (okG_rng hok).2.1
  have hes := okG_nodes hok
  obtain ⟨j, e, hj, _, he, hhead, _⟩ := cyc_facts hok h
  obtain ⟨t, w, h2⟩ := Inv.rounds (s := s0C N (-1)) (okG_small hok) (fun v => by simp [s0C]) hk N (by omega)
  have htv := h2 j e hj he
  obtain ⟨hall, _⟩ := w.back hes (v := e.v.toNat) (hes j e he).2 (by omega)
  have hat : atC N es = itE es (roundsE es (s0C N (-1)) N).1.la e.v.toNat N := by unfold atC; rw [hhead]; rfl
  intro q
  have h1 : 1 ≤ t (itE es (endC N es).1.la (atC N es) q) := by
    rw [hat]
    show 1 ≤ t (itE es (roundsE es (s0C N (-1)) N).1.la _ q)
    rw [← itE_add]; exact (hall _).2
  obtain ⟨j', e', a1, a2, a3, _⟩ := w.la _ h1
  exact ⟨j', e', a1, a2, a3⟩

theorem cyc_sum {N : Nat} {es : List GE} (hok : okG N es = true) (h : (endC N es).2 ≠ -1) : sumTo es (cycR N es) (cycR N es).length < 0 := by
  rw [cycR_yes hok h, sumTo_all, List.map_reverse, List.sum_reverse]
  rw [backE_sum (fun q => by obtain ⟨j, e, a, b, _⟩ := cyc_path hok h q; exact ⟨j, e, a, b⟩)]
  exact cyc_neg hok h
theorem cyc_isneg {N : Nat} {es : List GE} (hok : okG N es = true) (h : (endC N es).2 ≠ -1) : negC N es (cycR N es) = true := by
  have hs := cyc_sum hok h
  obtain ⟨_, _, _, _, _, _, _, hp0, _, hper, _, _⟩ := cyc_facts hok h
  have hl : (cycR N es).length = perC N es := by rw [cycR_yes hok h, List.length_reverse, backE_length]
  have hc : closedTo es (cycR N es) (cycR N es).length = true := by
    rw [hl, cycR_yes hok h]
    exact back_closed hok hp0 hper (cyc_path hok h)
  unfold negC
  rw [hok, hc, decide_eq_true hs, decide_eq_true (show 0 < (cycR N es).length by omega)]
  rfl
theorem cyc_path_neg {N : Nat} {es : List GE} (hok : okG N es = true) (h : (endC N es).2 ≠ -1) : pathW N es (cycR N es) < 0 := by
  unfold pathW
  rw [if_pos ⟨hok, by have := cycR_len N es; omega⟩]
  exact cyc_sum hok h

end Go.Proofs.Yteppmlepbfjnpaa

namespace Go.Proofs.Yteppmlepbfjnpaa
open Go.RowKit
set_option linter.unusedVariables false
set_option linter.unusedSimpArgs false

/-- No weight is greater than 100. -/
def Tiny (es : List GE) : Prop := ∀ (j : Nat) (e : GE), es[j]? = some e → -100 ≤ e.c ∧ e.c ≤ 100
theorem Tiny.small {es : List GE} (h : Tiny es) : Small es := fun j e he => by have := h j e he; omega
theorem upd_bdT {es : List GE} {s : St} {M : Int} (hs : Tiny es) (hb : Bd s M) (h0 : 0 ≤ M) (hM : M ≤ 1000000) {j : Nat} {e : GE} (he : es[j]? = some e) : Bd (updE s j e) (M + 100) := by
  intro v
  show -(M + 100) ≤ upf s.nu e.v.toNat (sumE s e) v ∧ upf s.nu e.v.toNat (sumE s e) v ≤ M + 100
  rw [sum_eq hs.small hb (by omega) he]
  unfold upf
  have h1 := hb e.u.toNat
  have h2 := hs j e he
  have h3 := hb v
  split <;> omega
theorem rounds_bdT {es : List GE} {s : St} (hs : Tiny es) (hb : Bd s 0) (hk : es.length ≤ 80) : ∀ r, r ≤ 8 → Bd (roundsE es s r).1 (8000 * (r : Int)) := by
  intro r
  induction r with
  | zero =>
    intro _
    show Bd s _
    simpa using hb
  | succ r ih =>
    intro hr
    have := pass_keep (es := es) (s := (roundsE es s r).1) (fun i s => Bd s (8000 * (r : Int) + 100 * (i : Int)) ∧ i ≤ es.length) ⟨by simpa using ih (by omega), Nat.zero_le _⟩
      (fun i s e he ⟨h, hi⟩ hl => by
        have hlt : i < es.length := (List.getElem?_eq_some_iff.1 he).1
        have := upd_bdT hs h (by omega) (by omega) he
        refine ⟨?_, hlt⟩
        rw [show 8000 * (r : Int) + 100 * ((i + 1 : Nat) : Int) = 8000 * (r : Int) + 100 * (i : Int) + 100 from by omega]
        exact this)
      (fun i s e he ⟨h, hi⟩ hl => by
        have hlt : i < es.length := (List.getElem?_eq_some_iff.1 he).1
        exact ⟨fun v => by have := h v; omega, hlt⟩) es.length (Nat.le_refl _)
    intro v
    have h1 := this.1 v
    show _ ≤ (passTo es (roundsE es s r).1 es.length).1.nu v ∧ (passTo es (roundsE es s r).1 es.length).1.nu v ≤ _
    omega

theorem closeOk_fin {N : Nat} {es : List GE} (hok : okG N es = true) (h : closeOk N es = true) {i : Nat} (hi : i < N) : Fin es i (roundsE es (srcS i) N).1 := by
  unfold closeOk at h
  rw [List.all_eq_true] at h
  exact srcS_fin hok hi (of_decide_eq_true (h i (by simpa using hi)))
theorem endS_bd {N : Nat} {es : List GE} (hok : okG N es = true) (ht : Tiny es) (i : Nat) (v : Nat) : -64000 ≤ (roundsE es (srcS i) N).1.nu v ∧ (roundsE es (srcS i) N).1.nu v ≤ 64000 := by
  have := rounds_bdT (s := srcS i) ht (fun v => by simp [srcS]) (okG_rng hok).2.2 N (by have := (okG_rng hok).2.1; omega) v
  have hN8 := (okG_rng hok).2.1
  omega
/-- A cell: the least weight of a walk, or Inf if there is none. -/
theorem cell_walk {N : Nat} {es : List GE} (hok : okG N es = true) (ht : Tiny es) (h : closeOk N es = true) {i k : Nat} (hi : i < N) (hk : k < N) :
    (Wk es i k (atT N (closeC N es) i k) ∧ -64000 ≤ atT N (closeC N es) i k ∧ atT N (closeC N es) i k ≤ 64000 ∨ atT N (closeC N es) i k = 1000000 ∧ ∀ x, ¬ Wk es i k x) := by
  rw [close_at N es hi hk]
  have hf := closeOk_fin hok h hi
  have hb := endS_bd hok ht i k
  unfold distE
  cases hkn : (roundsE es (srcS i) N).1.kn k with
  | true =>
    left
    have hw := hf.wk k hkn
    have : clampI (if true = true then (if (roundsE es (srcS i) N).1.nu k ≤ 1000000 then (roundsE es (srcS i) N).1.nu k else 1000000) else 1000000) = (roundsE es (srcS i) N).1.nu k := by
      rw [if_pos rfl, if_pos (by omega)]; unfold clampI; rw [if_neg (by omega), if_neg (by omega)]
    rw [this]
    exact ⟨hw, hb⟩
  | false =>
    right
    refine ⟨by rw [if_neg (by simp)]; rfl, fun x hx => ?_⟩
    have := (hf.min hx).1
    rw [hkn] at this; simp at this
theorem cell_min {N : Nat} {es : List GE} (hok : okG N es = true) (ht : Tiny es) (h : closeOk N es = true) {i k : Nat} (hi : i < N) (hk : k < N) {x : Int} (w : Wk es i k x) : atT N (closeC N es) i k ≤ x := by
  rw [close_at N es hi hk]
  have hf := closeOk_fin hok h hi
  have hb := endS_bd hok ht i k
  obtain ⟨a, b⟩ := hf.min w
  unfold distE
  rw [if_pos a, if_pos (by omega)]
  unfold clampI; rw [if_neg (by omega), if_neg (by omega)]
  exact b
theorem cell_diag {N : Nat} {es : List GE} (hok : okG N es = true) (ht : Tiny es) (h : closeOk N es = true) {i : Nat} (hi : i < N) : atT N (closeC N es) i i = 0 := by
  rw [close_at N es hi hi]
  have hf := closeOk_fin hok h hi
  unfold distE
  rw [if_pos hf.at_, hf.zero]; rfl
theorem Wk.lt {N : Nat} {es : List GE} (hok : okG N es = true) {i k : Nat} {x : Int} (w : Wk es i k x) (hi : i < N) : k < N := by
  induction w with
  | nil => exact hi
  | snoc j e k he hu ih => exact (okG_nodes hok j e he).2
theorem close_closed {N : Nat} {es : List GE} (hok : okG N es = true) (ht : Tiny es) (h : closeOk N es = true) {i j k : Nat} (hi : i < N) (hj : j < N) (hk : k < N) :
    atT N (closeC N es) i k ≤ addI (atT N (closeC N es) i j) (atT N (closeC N es) j k) := by
  rcases cell_walk hok ht h hi hj with ⟨w1, b1, b1'⟩ | ⟨e1, n1⟩
  · rcases cell_walk hok ht h hj hk with ⟨w2, b2, b2'⟩ | ⟨e2, n2⟩
    · have := cell_min hok ht h hi hk (w1.append w2)
      unfold addI clampI
      rw [if_neg (by omega), if_neg (by omega), if_neg (by omega), if_neg (by omega)]; exact this
    · rw [e2]
      unfold addI
      rw [if_pos (by omega)]
      rcases cell_walk hok ht h hi hk with ⟨_, b3, b3'⟩ | ⟨e3, _⟩ <;> omega
  · rw [e1]
    unfold addI
    rw [if_pos (by omega)]
    rcases cell_walk hok ht h hi hk with ⟨_, b3, b3'⟩ | ⟨e3, _⟩ <;> omega

/-- There is no table exactly if there is a closed walk of negative weight. -/
theorem close_neg {N : Nat} {es : List GE} (hok : okG N es = true) (h : closeOk N es = true) {x : Nat} {y : Int} (hx : x < N) (w : Wk es x x y) : 0 ≤ y :=
  (closeOk_fin hok h hx).nonneg (Wk.nil x) w
theorem not_close {N : Nat} {es : List GE} (hok : okG N es = true) (h : closeOk N es = false) : ∃ x y, Wk es x x y ∧ y < 0 ∧ x < N := by
  unfold closeOk at h
  rw [List.all_eq_false] at h
  obtain ⟨i, hi, h2⟩ := h
  exact neg_walk (s := srcS i) hok (fun v => by simp [srcS]) (by simpa using h2)
theorem close_iff {N : Nat} {es : List GE} (hok : okG N es = true) : closeOk N es = true ↔ (endC N es).2 = -1 := by
  constructor
  · intro h
    by_cases he : (endC N es).2 = -1
    · exact he
    · obtain ⟨x, y, w, hy, hx⟩ := neg_walk (s := s0C N (-1)) hok (fun v => by simp [s0C]) he
      have := close_neg hok h hx w
      omega
  · intro h
    cases hc : closeOk N es with
    | true => rfl
    | false =>
      obtain ⟨x, y, w, hy, hx⟩ := not_close hok hc
      have := pot_nonneg hok h hx w
      omega

end Go.Proofs.Yteppmlepbfjnpaa

namespace Go.Proofs.Yteppmlepbfjnpaa
open Go.RowKit
set_option linter.unusedVariables false
set_option linter.unusedSimpArgs false

theorem addI_fin {a b : Int} (ha : -400000 ≤ a ∧ a ≤ 400000) (hb : -400000 ≤ b ∧ b ≤ 400000) : addI a b = a + b := by
  unfold addI clampI
  rw [if_neg (by omega), if_neg (by omega), if_neg (by omega), if_neg (by omega)]
theorem addI_infL (b : Int) : addI 1000000 b = 1000000 := by unfold addI; rw [if_pos (by omega)]
theorem addI_infR (a : Int) : addI a 1000000 = 1000000 := by unfold addI; rw [if_pos (by omega)]

theorem close_okT {N : Nat} {es : List GE} (hok : okG N es = true) (ht : Tiny es) (h : closeOk N es = true) : okT N (closeC N es) = true := by
  have hN8 := (okG_rng hok).2.1
  unfold okT
  rw [Bool.and_eq_true, List.all_eq_true]
  refine ⟨decide_eq_true ⟨by omega, by omega, by rw [close_length]; simp⟩, fun p hp => ?_⟩
  have hp2 : p < N * N := by rw [List.mem_range, close_length] at hp; exact hp
  have hN0 : 0 < N := Nat.pos_of_ne_zero (fun e => by subst e; omega)
  have hi : p / N < N := Nat.div_lt_of_lt_mul hp2
  have hk : p % N < N := Nat.mod_lt _ hN0
  have hpe : p / N * N + p % N = p := by rw [Nat.mul_comm]; exact Nat.div_add_mod p N
  have hat : (closeC N es)[p]?.getD 0 = atT N (closeC N es) (p / N) (p % N) := by unfold atT; rw [hpe]
  rw [hat]
  unfold cellT
  rw [Bool.and_eq_true]
  constructor
  · rcases cell_walk hok ht h hi hk with ⟨_, b, b'⟩ | ⟨e, _⟩
    · exact decide_eq_true (by omega)
    · rw [e]; exact decide_eq_true (by omega)
  · by_cases hd : (p : Int) % ((N : Int) + 1) = 0
    · have hd2 : p % (N + 1) = 0 := by
        have h3 := hd
        rw [show ((N : Int) + 1) = ((N + 1 : Nat) : Int) from by omega, ← Int.natCast_emod] at h3
        exact Int.ofNat_eq_zero.1 h3
      obtain ⟨q, hq⟩ := Nat.dvd_of_mod_eq_zero hd2
      have hq2 : q < N := by
        rcases Nat.lt_or_ge q N with h1 | h1
        · exact h1
        · have : (N + 1) * N ≤ (N + 1) * q := Nat.mul_le_mul_left _ h1
          rw [← hq] at this
          have h2 : (N + 1) * N = N * N + N := Nat.succ_mul N N
          omega
      have e1 : p / N = q ∧ p % N = q := by
        have hpq : p = N * q + q := by rw [hq, Nat.succ_mul]
        constructor
        · rw [hpq, Nat.mul_add_div hN0, Nat.div_eq_of_lt hq2]; omega
        · rw [hpq, Nat.mul_add_mod, Nat.mod_eq_of_lt hq2]
      rw [e1.1, e1.2, cell_diag hok ht h hq2]
      simp
    · rw [decide_eq_false hd]; rfl
theorem close_closedR {N : Nat} {es : List GE} (hok : okG N es = true) (ht : Tiny es) (h : closeOk N es = true) : closedR N (closeC N es) = true := by
  unfold closedR
  rw [close_okT hok ht h, Bool.true_and, List.all_eq_true]
  intro i hi
  rw [List.all_eq_true]
  intro j hj
  rw [List.all_eq_true]
  intro k hk
  simp only [Int.toNat_natCast, List.mem_range] at hi hj hk ⊢
  exact decide_eq_true (close_closed hok ht h hi hj hk)

/-- A walk stays one when edges come. -/
theorem Wk.more {es fs : List GE} {i k : Nat} {x : Int} (w : Wk es i k x) : Wk (es ++ fs) i k x := by
  induction w with
  | nil => exact Wk.nil _
  | snoc j e k he hu ih => exact Wk.snoc j e ih (by rw [List.getElem?_append_left (List.getElem?_eq_some_iff.1 he).1]; exact he) hu
theorem last_edge (es : List GE) (e : GE) : (es ++ [e])[es.length]? = some e := by simp
theorem more_edge {es : List GE} {e e' : GE} {j : Nat} (h : (es ++ [e])[j]? = some e') : es[j]? = some e' ∨ e' = e := by
  by_cases hj : j < es.length
  · rw [List.getElem?_append_left hj] at h; exact .inl h
  · rw [List.getElem?_append_right (by omega)] at h
    right
    have : j - es.length = 0 := by
      rcases Nat.eq_zero_or_pos (j - es.length) with h0 | h0
      · exact h0
      · rw [List.getElem?_eq_none (by simp; omega)] at h; simp at h
    rw [this] at h
    simpa using h.symm
theorem okG_more {N : Nat} {es : List GE} {e : GE} (hok : okG N es = true) (hl : es.length < 80) (hu : 0 ≤ e.u ∧ e.u < N) (hv : 0 ≤ e.v ∧ e.v < N) (hc : -1000000 < e.c ∧ e.c < 1000000) : okG N (es ++ [e]) = true := by
  unfold okG at hok ⊢
  rw [Bool.and_eq_true] at hok ⊢
  refine ⟨?_, ?_⟩
  · have := hok.1
    simp only [Bool.and_eq_true, decide_eq_true_eq] at this ⊢
    simp
    omega
  · rw [List.all_append, hok.2, Bool.true_and]
    simp only [List.all_cons, List.all_nil, Bool.and_true]
    unfold okE
    simp only [Bool.and_eq_true, decide_eq_true_eq]
    exact ⟨⟨hu, hv⟩, hc⟩

section
variable {N : Nat} {es : List GE} {e : GE}
/-- What the table with the edge holds: the weight of a walk, or Inf. -/
theorem tight_walk (hok : okG N es = true) (ht : Tiny es) (h : closeOk N es = true) (hu : e.u.toNat < N) (hv : e.v.toNat < N) (hc : -100 ≤ e.c ∧ e.c ≤ 100) {i k : Nat} (hi : i < N) (hk : k < N) :
    (Wk (es ++ [e]) i k (tightAt N (closeC N es) e i k) ∧ -200000 ≤ tightAt N (closeC N es) e i k ∧ tightAt N (closeC N es) e i k ≤ 200000) ∨
      (tightAt N (closeC N es) e i k = 1000000 ∧ atT N (closeC N es) i k = 1000000 ∧ addI (addI (atT N (closeC N es) i e.u.toNat) e.c) (atT N (closeC N es) e.v.toNat k) = 1000000) := by
  have hw : Wk (es ++ [e]) e.u.toNat e.v.toNat e.c := Wk.one (last_edge es e)
  have hsum : (Wk (es ++ [e]) i k (addI (addI (atT N (closeC N es) i e.u.toNat) e.c) (atT N (closeC N es) e.v.toNat k)) ∧ -200000 ≤ addI (addI (atT N (closeC N es) i e.u.toNat) e.c) (atT N (closeC N es) e.v.toNat k) ∧ addI (addI (atT N (closeC N es) i e.u.toNat) e.c) (atT N (closeC N es) e.v.toNat k) ≤ 200000) ∨
      addI (addI (atT N (closeC N es) i e.u.toNat) e.c) (atT N (closeC N es) e.v.toNat k) = 1000000 := by
    rcases cell_walk hok ht h hi hu with ⟨w1, b1, b1'⟩ | ⟨e1, _⟩
    · rcases cell_walk hok ht h hv hk with ⟨w2, b2, b2'⟩ | ⟨e2, _⟩
      · left
        rw [addI_fin (a := atT N (closeC N es) i e.u.toNat) (b := e.c) (by omega) (by omega), addI_fin (by omega) (by omega)]
        exact ⟨(w1.more.append hw).append w2.more, by omega, by omega⟩
      · right; rw [e2, addI_infR]
    · right; rw [e1, addI_infL, addI_infL]
  unfold tightAt
  split
  · next hle =>
    rcases cell_walk hok ht h hi hk with ⟨w0, b0, b0'⟩ | ⟨e0, _⟩
    · exact .inl ⟨w0.more, by omega, by omega⟩
    · rcases hsum with ⟨_, _, h3⟩ | h3
      · rw [e0] at hle; omega
      · exact .inr ⟨e0, e0, h3⟩
  · next hle =>
    rcases hsum with ⟨h1, h2, h3⟩ | h3
    · exact .inl ⟨h1, by omega, by omega⟩
    · exfalso
      rw [h3] at hle
      rcases cell_walk hok ht h hi hk with ⟨_, b0, b0'⟩ | ⟨e0, _⟩ <;> omega
theorem tight_le (N : Nat) (cs : List Int) (e : GE) (i k : Nat) : tightAt N cs e i k ≤ atT N cs i k ∧ tightAt N cs e i k ≤ addI (addI (atT N cs i e.u.toNat) e.c) (atT N cs e.v.toNat k) := by
  unfold tightAt; split <;> omega

/-- No edge lowers a number of the table with the edge. -/
theorem tight_stable (hok : okG N es = true) (ht : Tiny es) (h : closeOk N es = true) (hu : e.u.toNat < N) (hv : e.v.toNat < N) (hc : -100 ≤ e.c ∧ e.c ≤ 100) (hpos : 0 ≤ addI e.c (atT N (closeC N es) e.v.toNat e.u.toNat))
    {i : Nat} (hi : i < N) {j : Nat} {e' : GE} (he : (es ++ [e])[j]? = some e') (hfin : tightAt N (closeC N es) e i e'.u.toNat ≤ 200000) :
    tightAt N (closeC N es) e i e'.v.toNat ≤ tightAt N (closeC N es) e i e'.u.toNat + e'.c := by
  rcases more_edge he with h1 | rfl
  · obtain ⟨hu', hv'⟩ := okG_nodes hok j e' h1
    have hstep : ∀ r, r < N → atT N (closeC N es) r e'.u.toNat ≤ 300000 → atT N (closeC N es) r e'.v.toNat ≤ atT N (closeC N es) r e'.u.toNat + e'.c := by
      intro r hr hle
      rcases cell_walk hok ht h hr hu' with ⟨w1, _, _⟩ | ⟨e1, _⟩
      · exact cell_min hok ht h hr hv' (Wk.snoc j e' w1 h1 rfl)
      · omega
    have hle := tight_le N (closeC N es) e i e'.v.toNat
    have hcc := ht j e' h1
    by_cases hcase : atT N (closeC N es) i e'.u.toNat ≤ addI (addI (atT N (closeC N es) i e.u.toNat) e.c) (atT N (closeC N es) e.v.toNat e'.u.toNat)
    · have heq : tightAt N (closeC N es) e i e'.u.toNat = atT N (closeC N es) i e'.u.toNat := by unfold tightAt; rw [if_pos hcase]
      rw [heq] at hfin ⊢
      have := hstep i hi (by omega)
      omega
    · have heq : tightAt N (closeC N es) e i e'.u.toNat = addI (addI (atT N (closeC N es) i e.u.toNat) e.c) (atT N (closeC N es) e.v.toNat e'.u.toNat) := by unfold tightAt; rw [if_neg hcase]
      rw [heq] at hfin ⊢
      rcases cell_walk hok ht h hi hu with ⟨w1, b1, b1'⟩ | ⟨e1, _⟩
      · rcases cell_walk hok ht h hv hu' with ⟨w2, b2, b2'⟩ | ⟨e2, _⟩
        · have h3 := hstep e.v.toNat hv (by omega)
          rcases cell_walk hok ht h hv hv' with ⟨w4, b4, b4'⟩ | ⟨e4, n4⟩
          · rw [addI_fin (a := atT N (closeC N es) i e.u.toNat) (b := e.c) (by omega) (by omega), addI_fin (by omega) (by omega)]
            have h5 := hle.2
            rw [addI_fin (a := atT N (closeC N es) i e.u.toNat) (b := e.c) (by omega) (by omega), addI_fin (by omega) (by omega)] at h5
            omega
          · exact absurd (Wk.snoc j e' w2 h1 rfl) (n4 _)
        · rw [e2, addI_infR] at hfin; omega
      · rw [e1, addI_infL, addI_infL] at hfin; omega
  · -- the new edge itself
    have hle := tight_le N (closeC N es) e' i e'.v.toNat
    have hd := cell_diag hok ht h hv
    have heq : tightAt N (closeC N es) e' i e'.u.toNat = atT N (closeC N es) i e'.u.toNat := by
      unfold tightAt
      rw [if_pos]
      rcases cell_walk hok ht h hi hu with ⟨w1, b1, b1'⟩ | ⟨e1, _⟩
      · rcases cell_walk hok ht h hv hu with ⟨w2, b2, b2'⟩ | ⟨e2, _⟩
        · rw [addI_fin (a := e'.c) (by omega) (by omega)] at hpos
          rw [addI_fin (a := atT N (closeC N es) i e'.u.toNat) (b := e'.c) (by omega) (by omega), addI_fin (by omega) (by omega)]
          omega
        · rw [e2, addI_infR]; omega
      · rw [e1, addI_infL, addI_infL]; omega
    rw [heq] at hfin ⊢
    rcases cell_walk hok ht h hi hu with ⟨w1, b1, b1'⟩ | ⟨e1, _⟩
    · have h5 := hle.2
      rw [hd, addI_fin (a := atT N (closeC N es) i e'.u.toNat) (b := e'.c) (by omega) (by omega), addI_fin (by omega) (by omega)] at h5
      omega
    · omega
theorem tight_min (hok : okG N es = true) (ht : Tiny es) (h : closeOk N es = true) (hu : e.u.toNat < N) (hv : e.v.toNat < N) (hc : -100 ≤ e.c ∧ e.c ≤ 100) (hpos : 0 ≤ addI e.c (atT N (closeC N es) e.v.toNat e.u.toNat))
    {i k : Nat} {x : Int} (hi : i < N) (w : Wk (es ++ [e]) i k x) : k < N ∧ tightAt N (closeC N es) e i k ≤ 200000 ∧ tightAt N (closeC N es) e i k ≤ tightAt N (closeC N es) e i i + x := by
  induction w with
  | nil =>
    refine ⟨hi, ?_, by omega⟩
    have := (tight_le N (closeC N es) e i i).1
    rw [cell_diag hok ht h hi] at this
    omega
  | snoc j e' k he hu' ih =>
    obtain ⟨a, b, c⟩ := ih
    subst hu'
    have hv' : e'.v.toNat < N := by
      rcases more_edge he with h1 | rfl
      · exact (okG_nodes hok j e' h1).2
      · exact hv
    have hs := tight_stable hok ht h hu hv hc hpos hi he b
    have hcc : -100 ≤ e'.c ∧ e'.c ≤ 100 := by
      rcases more_edge he with h1 | rfl
      · exact ht j e' h1
      · exact hc
    rcases tight_walk (e := e) hok ht h hu hv hc hi hv' with ⟨_, h2, h3⟩ | ⟨h2, _⟩
    · exact ⟨hv', h3, by omega⟩
    · omega

/-- AN EDGE ADDED TO THE TABLE GIVES THE TABLE OF THE GRAPH WITH THIS EDGE. -/
theorem tight_close (hok : okG N es = true) (ht : Tiny es) (h : closeOk N es = true) (hl : es.length < 80) (hu0 : 0 ≤ e.u ∧ e.u < N) (hv0 : 0 ≤ e.v ∧ e.v < N) (hc : -100 ≤ e.c ∧ e.c ≤ 100) :
    tightR N (closeC N es) e = closeR N (es ++ [e]) := by
  have hu : e.u.toNat < N := by omega
  have hv : e.v.toNat < N := by omega
  have hok' := okG_more (e := e) hok hl hu0 hv0 (by omega)
  have ht' : Tiny (es ++ [e]) := fun j e' he => by
    rcases more_edge he with h1 | rfl
    · exact ht j e' h1
    · exact hc
  have htok : tightOk N (closeC N es) e = !decide (addI e.c (atT N (closeC N es) e.v.toNat e.u.toNat) < 0) := by
    unfold tightOk
    rw [close_closedR hok ht h, decide_eq_true hu0, decide_eq_true hv0, decide_eq_true (show -1000000 < e.c ∧ e.c < 1000000 by omega)]
    simp
  by_cases hneg : addI e.c (atT N (closeC N es) e.v.toNat e.u.toNat) < 0
  · have hno : closeOk N (es ++ [e]) = false := by
      rcases cell_walk hok ht h hv hu with ⟨w2, b2, b2'⟩ | ⟨e2, _⟩
      · rw [addI_fin (by omega) (by omega)] at hneg
        cases hc2 : closeOk N (es ++ [e]) with
        | false => rfl
        | true =>
          have := close_neg hok' hc2 hv (w2.more.append (Wk.one (last_edge es e)))
          omega
      · rw [e2, addI_infR] at hneg; omega
    unfold tightR closeR
    rw [if_neg (by rw [htok, decide_eq_true hneg]; simp), if_neg (by rw [Int.toNat_natCast, hno]; simp)]
  · have hpos : 0 ≤ addI e.c (atT N (closeC N es) e.v.toNat e.u.toNat) := by omega
    have hyes : closeOk N (es ++ [e]) = true := by
      cases hc2 : closeOk N (es ++ [e]) with
      | true => rfl
      | false =>
        obtain ⟨x, y, w, hy, hx⟩ := not_close hok' hc2
        have := (tight_min hok ht h hu hv hc hpos hx w).2.2
        omega
    unfold tightR closeR
    rw [if_pos (by rw [htok, decide_eq_false hneg]; rfl), if_pos ⟨hok', by rw [Int.toNat_natCast]; exact hyes⟩]
    refine congrArg (fun z => ((N : Int), z, true)) ?_
    rw [Int.toNat_natCast]
    have hN0 : 0 < N := by omega
    apply List.ext_getElem?
    intro p
    by_cases hp : p < N * N
    · have hi : p / N < N := Nat.div_lt_of_lt_mul hp
      have hk : p % N < N := Nat.mod_lt _ hN0
      have hpe : p / N * N + p % N = p := by rw [Nat.mul_comm]; exact Nat.div_add_mod p N
      have h1 := tight_at N (closeC N es) e hi hk
      have h2 : tightAt N (closeC N es) e (p / N) (p % N) = atT N (closeC N (es ++ [e])) (p / N) (p % N) := by
        have hd : tightAt N (closeC N es) e (p / N) (p / N) ≤ 0 := by
          have := (tight_le N (closeC N es) e (p / N) (p / N)).1
          rw [cell_diag hok ht h hi] at this; exact this
        rcases cell_walk hok' ht' hyes hi hk with ⟨w, b, b'⟩ | ⟨e1, n1⟩
        · have hm := (tight_min hok ht h hu hv hc hpos hi w).2
          rcases tight_walk (e := e) hok ht h hu hv hc hi hk with ⟨w2, _, _⟩ | ⟨e2, _⟩
          · have := cell_min hok' ht' hyes hi hk w2
            omega
          · omega
        · rcases tight_walk (e := e) hok ht h hu hv hc hi hk with ⟨w2, _, _⟩ | ⟨e2, _⟩
          · exact absurd w2 (n1 _)
          · rw [e1, e2]
      rw [← h1] at h2
      unfold atT at h2
      rw [hpe] at h2
      have l1 : p < (tightC N (closeC N es) e).length := by rw [tight_length]; exact hp
      have l2 : p < (closeC N (es ++ [e])).length := by rw [close_length]; exact hp
      rw [List.getElem?_eq_getElem l1, List.getElem?_eq_getElem l2] at h2
      rw [List.getElem?_eq_getElem l1, List.getElem?_eq_getElem l2]
      simpa using h2
    · rw [List.getElem?_eq_none (by rw [tight_length]; omega), List.getElem?_eq_none (by rw [close_length]; omega)]
end

end Go.Proofs.Yteppmlepbfjnpaa

