/-
  A REGION THAT DRAWS ITS ORDER, BOTH WITH CALLS AND WITH A MEMORY TAIL, IN WHICH ONE LOAD MAY COME UP LATE: 's.F = append(s.F, T{f(), g()})' behind a pointer. The load d may come before or behind the building of the row (operation n); all else among d+1 .. n-1 is quiet in a class of worlds; from n on one after another.
  WALKS of the program: what a tie's line adds to a show (addTie, readTie, readFree).
-/
import Derived.Test.YtgajodcgedhikaaGreatDoorBdLwF
import Derived.Deep.AppendLies
import Derived.Deep.RegionLaw
import Derived.Deep.Cut
import Derived.Deep.CutRange
namespace Go.Proofs.YtgajodcgedhikaaGreatDoor
set_option linter.unusedVariables false

section
variable {P : Program} {ops : Array Oper} {md : Region.Mode} {C : World → Prop}

def sinkFrom (md : Region.Mode) (ops : Array Oper) (k n : Nat) : Bool := (List.range n).all fun i => decide (i < k) || (List.range (n + 1)).any fun j => decide (i < j) && Region.waitsFor md ops j i

theorem not_ready_of {j i : Nat} {u : Array Bool} (h : Region.waitsFor md ops j i = true) (hu : u.getD i true = false) : j ∉ Region.ready md ops u := by
  intro hj
  obtain ⟨o, ho, e, he, hb, hon⟩ := Region.waitsFor_spec h
  obtain ⟨_, o2, ho2, hall⟩ := mem_ready.1 hj
  obtain rfl : o = o2 := Option.some.inj (ho.symm.trans ho2)
  have := hall e he hb
  rw [hon, getD_both hu] at this
  cases this

theorem chain_not {n t : Nat} {u : Array Bool} (hc : Region.chainB md ops n = true) (inv : HeadInv md ops n u) (ht : n < t) : t ∉ Region.ready md ops u := by
  intro hj
  obtain ⟨_, o, ho, _⟩ := mem_ready.1 hj
  have hlt : t < ops.size := (Array.getElem?_eq_some_iff.1 ho).1
  unfold Region.chainB at hc
  rw [List.all_eq_true] at hc
  have h1 := hc t (List.mem_range.2 hlt)
  rw [Bool.or_eq_true, decide_eq_true_eq] at h1
  rcases h1 with h1 | h1
  · omega
  · exact not_ready_of h1 (inv.tail (t - 1) (by omega) (by omega)) hj

theorem tail_from {k n : Nat} {u : Array Bool} (hs : sinkFrom md ops k n = true) (hc : Region.chainB md ops n = true) (hn : n < ops.size) (inv : HeadInv md ops n u) :
    ∀ (m i : Nat), n - i = m → k ≤ i → i < n → u.getD i true = false → ∀ t, n ≤ t → t ∉ Region.ready md ops u := by
  intro m
  induction m using Nat.strongRecOn with
  | _ m ih =>
    intro i hm hki hin hu t ht
    have h0 := hs
    unfold sinkFrom at h0
    rw [List.all_eq_true] at h0
    have h1 := h0 i (List.mem_range.2 hin)
    rw [Bool.or_eq_true, decide_eq_true_eq, List.any_eq_true] at h1
    rcases h1 with h1 | ⟨j, hj, h1⟩
    · omega
    · rw [Bool.and_eq_true, decide_eq_true_eq] at h1
      have hjn : j < n + 1 := List.mem_range.1 hj
      by_cases hjn2 : j = n
      · subst hjn2
        by_cases htj : t = j
        · subst htj; exact not_ready_of h1.2 hu
        · exact chain_not hc inv (by omega)
      · have hjs : j < u.size := by rw [inv.size]; omega
        have hju : u.getD j true = false := by
          refine getD_in hjs ?_
          cases hb : u.getD j false with
          | false => rfl
          | true =>
            obtain ⟨o, ho, e, he, hbd, hon⟩ := Region.waitsFor_spec h1.2
            have := inv.closed j o ho hb e he hbd
            rw [hon, getD_both hu] at this
            cases this
        exact ih (n - j) (by omega) j rfl (by omega) (by omega) hju t ht

theorem headK_take {k n i : Nat} {x : Oper} {v : Value} {L : Array Bool → Act → Prop} (hx : ops[i]? = some x) (hsel : ∀ (j : Nat) (o : Oper) cs b, ops[j]? = some o → o.op ≠ .select cs b)
    (hs : sinkFrom md ops k n = true) (hc : Region.chainB md ops n = true) (hn : n < ops.size) (hki : k ≤ i) (hin : i < n) (hend : ∀ u a, L u a → ∀ j ∈ Region.ready md ops u, n ≤ j) (f : Nat) :
    ∀ (u : Array Bool) (a : Act), HeadInv md ops n u →
      (∀ j y, ops[j]? = some y → j ≠ i → u.getD j true = false → (∀ e ∈ y.after, Region.binds md e = true → e.on ≠ i) → x.apart ops y = true) →
      i ∈ Region.ready md ops u → YieldsIn P ops C x v a →
      headW P md ops C n L f (u.setIfInBounds i true) (a.put x.dst v) → headW P md ops C n L (f + 1) u a := by
  induction f with
  | zero =>
    intro u a inv _ hr hy H
    have hun := (mem_ready.1 hr).1
    refine ⟨fun e => (by rw [e] at hr; cases hr), fun j hj => ?_⟩
    have hjn : j < n := Nat.lt_of_not_le fun h => tail_from hs hc hn inv _ i rfl hki hin hun j h hj
    refine ⟨hjn, ?_⟩
    by_cases hji : j = i
    · subst hji; exact hy.qOp hx H
    · exact absurd (hend _ _ H j (ready_mono hj hji)) (by omega)
  | succ f ih =>
    intro u a inv hfr hr hy H
    have hun := (mem_ready.1 hr).1
    refine ⟨fun e => (by rw [e] at hr; cases hr), fun j hj => ?_⟩
    have hjn : j < n := Nat.lt_of_not_le fun h => tail_from hs hc hn inv _ i rfl hki hin hun j h hj
    refine ⟨hjn, ?_⟩
    by_cases hji : j = i
    · subst hji; exact hy.qOp hx H
    · obtain ⟨hju, y, hyj, hall⟩ := mem_ready.1 hj
      have hno : ∀ e ∈ y.after, Region.binds md e = true → e.on ≠ i := fun e he hb heq => by
        have h9 := hall e he hb
        rw [heq, getD_both hun] at h9
        cases h9
      have hq := qOp_put hyj (hfr j y hyj hji hju hno) (fun cs b => hsel i x cs b hx) (fun cs b => hsel j y cs b hyj) hy (H.2 j (ready_mono hj hji)).2
      refine qOp_mono (fun b hb => ih (u.setIfInBounds j true) b (inv.set hj hjn) (fun k z hk hki hku hkn => hfr k z hk hki ?_ hkn) (ready_mono hr (Ne.symm hji)) hb.1 ?_) hq
      · by_cases hjk : j = k
        · subst hjk; exact hju
        · rw [getD_set_ne true hjk] at hku; exact hku
      · rw [Array.setIfInBounds_comm _ _ hji]; exact hb.2

theorem headK_lex {k0 n g : Nat} {K : Act → Prop} (hsel : Region.noSelect ops = true) (hs : sinkFrom md ops k0 n = true) (hc : Region.chainB md ops n = true) (hn : n < ops.size) (l : List Oper) :
    ∀ (k : Nat) (u : Array Bool) (a : Act), (∀ j, j < l.length → l[j]? = ops[k + j]?) → k0 ≤ k → k + l.length = n → HeadInv md ops n u → Region.lexHead md ops g l.length k u = true → wpQuiet P ops C K l a →
    headW P md ops C n (fun u' a' => Region.seqB md ops g n u' = true ∧ K a') l.length u a := by
  induction l with
  | nil =>
    intro k u a _ _ hk _ hB h
    obtain rfl : k = n := by simpa using hk
    exact ⟨by simpa [Region.lexHead] using hB, h⟩
  | cons o l ih =>
    intro k u a hl hkk hk inv hB h
    have h0 : ops[k]? = some o := by simpa using (hl 0 (by simp)).symm
    simp only [List.length_cons, Region.lexHead, Bool.and_eq_true] at hB hk
    obtain ⟨⟨hr, hf⟩, hB2⟩ := hB
    have hkn : k < n := by omega
    have hr2 : k ∈ Region.ready md ops u := by simpa using hr
    obtain ⟨v, hy, hK⟩ := yieldsIn_of_qOp h0 (show qOp P ops C k (wpQuiet P ops C K l) a from by unfold qOp; simp only [h0]; exact h)
    refine headK_take h0 (Region.noSelect_spec hsel) hs hc hn hkk hkn (fun u' a' hL => seqB_ready hL.1) l.length u a inv (Region.free_spec h0 hf) hr2 hy ?_
    exact ih (k + 1) _ _ (fun j hj => by have := hl (j + 1) (by simp; omega); simpa [Nat.add_assoc, Nat.add_comm 1 j] using this) (by omega) (by omega) (inv.set hr2 hkn) hB2 hK

/-- The load d, in every world of the class. -/
def StillIn (P : Program) (ops : Array Oper) (C : World → Prop) (x : Oper) (v : Value) (a : Act) : Prop := Region.wanted x (yielded ops a.tmps) = true ∧ ∀ w, C w → (execOp a.eval x).run P w = .ok (.value v) w
theorem StillIn.yields {x : Oper} {v : Value} {a : Act} (h : StillIn P ops C x v a) : YieldsIn P ops C x v a :=
  .inl ⟨h.1, fun w hw => by unfold Oper.quietAt; rw [h.2 w hw]; exact ⟨rfl, rfl⟩⟩
theorem StillIn.put {x : Oper} {v u : Value} {a : Act} {dst : Option Tmp} (h : StillIn P ops C x v a) (hsx : ∀ cs b, x.op ≠ .select cs b) (h3 : ∀ d, dst = some d → d ∉ x.looksAt ops) : StillIn P ops C x v (a.put dst u) := by
  unfold StillIn at *
  rw [wanted_put x a dst u h3, execOp_put x hsx a dst u h3]
  exact h
theorem qOp_reach {j : Nat} {y : Oper} {K : Act → Prop} {a : Act} (hj : ops[j]? = some y) (h : qOp P ops C j K a) : qOp P ops C j (fun a' => (∃ u, a' = a.put y.dst u) ∧ K a') a := by
  unfold qOp at *
  simp only [hj] at *
  split
  · rename_i hw
    simp only [hw, if_true] at h
    obtain ⟨v, h1, h2⟩ := h
    exact ⟨v, h1, ⟨v, rfl⟩, h2⟩
  · rename_i hw
    simp only [hw] at h
    exact ⟨⟨_, rfl⟩, h⟩

/-- What stands behind the head: the row is built, and what follows comes in its order. -/
def lateK (P : Program) (ops : Array Oper) (C : World → Prop) (R : Exit → Act → World → Prop) (t0 : Oper) (T : List Oper) (a : Act) : Prop :=
  Region.wanted t0 (yielded ops a.tmps) = true ∧ ∀ w, C w → ∃ tv w1, (execOp a.eval t0).run P w = .ok (.value tv) w1 ∧ C w1 ∧ wpList P ops R T (a.put t0.dst tv) w1

theorem lateK_any {n : Nat} {t0 : Oper} {T : List Oper} {R : Exit → Act → World → Prop} (ht : ops[n]? = some t0) (hT : ∀ j, T[j]? = ops[n + 1 + j]?) {u : Array Bool} {a : Act} {w : World} (hw : C w)
    (h : Region.seqB md ops (T.length + 1) n u = true ∧ lateK P ops C R t0 T a) : wpAny P md ops R (T.length + 1) u a w := by
  obtain ⟨hB, hwt, hrun⟩ := h
  simp only [Region.seqB, Bool.and_eq_true, decide_eq_true_eq] at hB
  obtain ⟨tv, w1, hr, hc1, hL⟩ := hrun w hw
  refine ⟨fun e => (by rw [hB.1] at e; cases e), fun i hi => ?_⟩
  rw [hB.1] at hi
  obtain rfl : i = n := by simpa using hi
  unfold wpOp
  simp only [ht, hwt, if_true]
  left
  unfold Oper.wp
  rw [hr]
  exact wpAny_of_seq T (i + 1) _ _ _ hT hB.2 hL

theorem late_any {d n : Nat} {x t0 : Oper} {v : Value} {T : List Oper} {R : Exit → Act → World → Prop} (hx : ops[d]? = some x) (ht : ops[n]? = some t0) (hT : ∀ j, T[j]? = ops[n + 1 + j]?)
    (hsel : ∀ (j : Nat) (o : Oper) cs b, ops[j]? = some o → o.op ≠ .select cs b) (hs : sinkFrom md ops (d + 1) n = true) (hc : Region.chainB md ops n = true) (hn : n < ops.size) (hdn : d < n) (hw1 : Region.waitsFor md ops (n + 1) d = true) (f : Nat) :
    ∀ (u : Array Bool) (a : Act), HeadInv md ops n u → (∀ j, j < d → u.getD j true = true) →
      (∀ j y, ops[j]? = some y → j ≠ d → u.getD j true = false → (∀ e ∈ y.after, Region.binds md e = true → e.on ≠ d) → x.apart ops y = true) →
      d ∈ Region.ready md ops u → StillIn P ops C x v a →
      headW P md ops C n (fun u' a' => Region.seqB md ops (T.length + 1) n u' = true ∧ lateK P ops C R t0 T a') f (u.setIfInBounds d true) (a.put x.dst v) → ∀ w, C w → wpAny P md ops R (f + 1 + (T.length + 1)) u a w := by
  induction f with
  | zero =>
    intro u a inv hlow hfr hr hy H w hw
    have hun := (mem_ready.1 hr).1
    obtain ⟨hB, hK⟩ := H
    rw [show 0 + 1 + (T.length + 1) = (T.length + 1) + 1 from by omega]
    refine ⟨fun e => (by rw [e] at hr; cases hr), fun i hi => ?_⟩
    by_cases hid : i = d
    · subst hid
      unfold wpOp
      simp only [hx, hy.1, if_true]
      left
      unfold Oper.wp
      rw [hy.2 w hw]
      exact lateK_any ht hT hw ⟨hB, hK⟩
    · have hin : n ≤ i := seqB_ready hB i (ready_mono hi hid)
      have hni : i = n := by
        rcases Nat.lt_or_ge n i with h | h
        · exact absurd hi (chain_not hc inv h)
        · omega
      subst hni
      obtain ⟨hju, y, hyj, hall⟩ := mem_ready.1 hi
      obtain rfl : t0 = y := Option.some.inj (ht.symm.trans hyj)
      have hno : ∀ e ∈ t0.after, Region.binds md e = true → e.on ≠ d := fun e he hb heq => by
        have h9 := hall e he hb
        rw [heq, getD_both hun] at h9
        cases h9
      obtain ⟨h1, h2, h3⟩ := Oper.apart_spec (hfr i t0 hyj hid hju hno)
      obtain ⟨hwt, hrun⟩ := hK
      rw [wanted_put t0 a x.dst v h1] at hwt
      obtain ⟨tv, w1, hr1, hc1, hL⟩ := hrun w hw
      rw [execOp_put t0 (fun cs b => hsel i t0 cs b ht) a x.dst v h1] at hr1
      have hB2 := hB
      simp only [Region.seqB, Bool.and_eq_true, decide_eq_true_eq] at hB2
      have hrd : d ∈ Region.ready md ops (u.setIfInBounds i true) := ready_mono hr (Ne.symm hid)
      have hyd : StillIn P ops C x v (a.put t0.dst tv) := hy.put (fun cs b => hsel d x cs b hx) h3
      unfold wpOp
      simp only [ht, hwt, if_true]
      left
      unfold Oper.wp
      rw [hr1]
      refine ⟨fun e => (by rw [e] at hrd; cases hrd), fun j hj => ?_⟩
      have hjd : j = d := by
        by_cases hjd : j = d
        · exact hjd
        · exfalso
          have hj2 := ready_mono hj hjd
          rw [Array.setIfInBounds_comm _ _ hid] at hj2
          cases T with
          | nil =>
            have h5 := hB2.2
            simp only [List.length_nil, Region.seqB, List.isEmpty_iff] at h5
            rw [h5] at hj2
            cases hj2
          | cons t1 T =>
            have h5 := hB2.2
            simp only [List.length_cons, Region.seqB, Bool.and_eq_true, decide_eq_true_eq] at h5
            rw [h5.1] at hj2
            obtain rfl : j = i + 1 := by simpa using hj2
            exact not_ready_of hw1 (by rw [getD_set_ne true hid]; exact hun) hj
      subst hjd
      unfold wpOp
      simp only [hx, hyd.1, if_true]
      left
      unfold Oper.wp
      rw [hyd.2 w1 hc1]
      show wpAny P md ops R T.length ((u.setIfInBounds i true).setIfInBounds j true) ((a.put t0.dst tv).put x.dst v) w1
      rw [Array.setIfInBounds_comm _ _ hid, ← Act.put_comm a v tv h2]
      exact wpAny_of_seq T (i + 1) _ _ _ hT hB2.2 hL
  | succ f ih =>
    intro u a inv hlow hfr hr hy H w hw
    have hun := (mem_ready.1 hr).1
    rw [show f + 1 + 1 + (T.length + 1) = (f + 1 + (T.length + 1)) + 1 from by omega]
    refine ⟨fun e => (by rw [e] at hr; cases hr), fun i hi => ?_⟩
    by_cases hid : i = d
    · subst hid
      unfold wpOp
      simp only [hx, hy.1, if_true]
      left
      unfold Oper.wp
      rw [hy.2 w hw]
      exact headW_any (fun u a w h1 h2 => lateK_any ht hT h1 h2) (f + 1) _ _ w hw H
    · have hin : i < n := by
        obtain ⟨i2, hi2⟩ := List.exists_mem_of_ne_nil _ H.1
        have hi2n := (H.2 i2 hi2).1
        have hu2 := (mem_ready.1 hi2).1
        have hi2d : i2 ≠ d := by
          rintro rfl
          have hlt : i2 < u.size := by rw [inv.size]; omega
          simp [hlt] at hu2
        rw [getD_set_ne true (Ne.symm hi2d)] at hu2
        have hlo : d + 1 ≤ i2 := by
          rcases Nat.lt_or_ge i2 d with h | h
          · rw [hlow i2 h] at hu2; cases hu2
          · omega
        exact Nat.lt_of_not_le fun h => tail_from hs hc hn inv _ i2 rfl hlo hi2n hu2 i h hi
      obtain ⟨hju, y, hyj, hall⟩ := mem_ready.1 hi
      have hno : ∀ e ∈ y.after, Region.binds md e = true → e.on ≠ d := fun e he hb heq => by
        have h9 := hall e he hb
        rw [heq, getD_both hun] at h9
        cases h9
      have hap := hfr i y hyj hid hju hno
      obtain ⟨h1, h2, h3⟩ := Oper.apart_spec hap
      have hq := qOp_reach hyj (qOp_put hyj hap (fun cs b => hsel d x cs b hx) (fun cs b => hsel i y cs b hyj) hy.yields (H.2 i (ready_mono hi hid)).2)
      refine wpOp_of_qOp hw (fun b w' hw' hb => ?_) hq
      obtain ⟨⟨z, rfl⟩, _, hb2⟩ := hb
      refine ih (u.setIfInBounds i true) _ (inv.set hi hin) (fun j hj => ?_) (fun k z hk hki hku hkn => hfr k z hk hki ?_ hkn) (ready_mono hr (Ne.symm hid)) (hy.put (fun cs b => hsel d x cs b hx) h3) ?_ w' hw'
      · by_cases hji : j = i
        · subst hji
          rw [hlow j hj] at hju; cases hju
        · rw [getD_set_ne true (Ne.symm hji)]; exact hlow j hj
      · by_cases hjk : i = k
        · subst hjk; exact hju
        · rw [getD_set_ne true hjk] at hku; exact hku
      · rw [Array.setIfInBounds_comm _ _ hid]; exact hb2

def headInvB (md : Region.Mode) (ops : Array Oper) (n : Nat) (u : Array Bool) : Bool :=
  decide (u.size = ops.size) && ((List.range ops.size).all fun j => !u.getD j false || ((ops[j]?).map (·.after.all fun e => !Region.binds md e || u.getD e.on false)).getD true) && ((List.range ops.size).all fun t => decide (t < n) || !u.getD t true)
theorem headInvB_of {n : Nat} {u : Array Bool} (h : headInvB md ops n u = true) : HeadInv md ops n u := by
  unfold headInvB at h
  simp only [Bool.and_eq_true, decide_eq_true_eq, List.all_eq_true, List.mem_range] at h
  refine ⟨h.1.1, fun j o ho hl e he hb => ?_, fun t ht ht2 => ?_⟩
  · have h1 := h.1.2 j (Array.getElem?_eq_some_iff.1 ho).1
    rw [ho, hl] at h1
    simp only [Bool.not_true, Bool.false_or, Option.map_some, Option.getD_some, Array.all_eq_true_iff_forall_mem] at h1
    have h2 := h1 e he
    rw [hb] at h2
    simpa using h2
  · have h1 := h.2 t ht2
    rw [Bool.or_eq_true, decide_eq_true_eq] at h1
    rcases h1 with h1 | h1
    · omega
    · simpa using h1
def lateB (md : Region.Mode) (ops : Array Oper) (d n : Nat) (u : Array Bool) : Bool :=
  Region.noSelect ops && decide (n < ops.size) && decide (d < n) && sinkFrom md ops (d + 1) n && Region.chainB md ops n && Region.waitsFor md ops (n + 1) d && Region.free md ops u d && (Region.ready md ops u).contains d && headInvB md ops n u && (List.range d).all (fun j => u.getD j true) && Region.lexHead md ops (ops.size - n) (n - (d + 1)) (d + 1) (u.setIfInBounds d true)

theorem region_late (C : World → Prop) (d n : Nat) {l : List Oper} {R : Exit → Act → World → Prop} {u : Array Bool} {a : Act} {w : World} {x t0 : Oper} {v : Value} (hB : lateB md l.toArray d n u = true) (hC : C w) (hx : l[d]? = some x) (ht : l[n]? = some t0) (hy : StillIn P l.toArray C x v a)
    (h : wpQuiet P l.toArray C (lateK P l.toArray C R t0 (l.drop (n + 1))) ((l.take n).drop (d + 1)) (a.put x.dst v)) : wpAny P md l.toArray R (l.length - d) u a w := by
  unfold lateB at hB
  simp only [Bool.and_eq_true, decide_eq_true_eq] at hB
  obtain ⟨⟨⟨⟨⟨⟨⟨⟨⟨⟨hsel, hn⟩, hdn⟩, hs⟩, hc⟩, hw1⟩, hf⟩, hr⟩, hi⟩, hlow⟩, hlex⟩ := hB
  have hn2 : n < l.length := by simpa using hn
  have hx2 : l.toArray[d]? = some x := by simpa using hx
  have ht2 : l.toArray[n]? = some t0 := by simpa using ht
  have hr2 : d ∈ Region.ready md l.toArray u := by simpa using hr
  have inv := headInvB_of hi
  have hdl : (l.drop (n + 1)).length + 1 = l.toArray.size - n := by simp; omega
  have hml : ((l.take n).drop (d + 1)).length = n - (d + 1) := by simp; omega
  have H := headK_lex (md := md) (g := (l.drop (n + 1)).length + 1) (k0 := d + 1) (n := n) hsel hs hc hn ((l.take n).drop (d + 1)) (d + 1) _ _ (fun j hj => by
    rw [hml] at hj
    rw [List.getElem?_drop, List.getElem?_take]
    rw [if_pos (by omega)]
    simp) (Nat.le_refl _) (by rw [hml]; omega) (inv.set hr2 hdn) (by rw [hml, hdl]; exact hlex) h
  have G := late_any (T := l.drop (n + 1)) (R := R) hx2 ht2 (fun j => by simp [List.getElem?_drop]) (Region.noSelect_spec hsel) hs hc hn hdn hw1 _ u a inv (fun j hj => by
    rw [List.all_eq_true] at hlow
    exact hlow j (List.mem_range.2 hj)) (Region.free_spec hx2 hf) hr2 hy H w hC
  rw [show ((l.take n).drop (d + 1)).length + 1 + ((l.drop (n + 1)).length + 1) = l.length - d from by rw [hml]; simp; omega] at G
  exact G
end

end Go.Proofs.YtgajodcgedhikaaGreatDoor

namespace Go.Proofs.YtgajodcgedhikaaGreatDoor
open Go.RowKit
set_option linter.unusedVariables false
set_option linter.unusedSimpArgs false

set_option maxRecDepth 100000 in
set_option maxHeartbeats 16000000 in
theorem add_tie (ws : List ByteArray) (fr : Bool) (b hi : Nat) (s : GS) (A : Option Addr) (k c : Nat) (B : Option Addr) (m d : Nat) (zs : List NL) (w : World) (hsz : ∀ x ∈ ws, x.size ≤ 1048576) (hk : k ≤ 1000) (hm : m ≤ 1000) (hwf : ∀ e ∈ s.ns, e.wf) (hr : RdS w b hi s A k c B m d zs) (h1 : b < hi) (h2 : hi ≤ w.heap.size) (hp : Pow10 w) (he : Errs w) :
    Calls Tryz.prog 76 #[.pointer (some ⟨b, 0, none⟩), waV ws, .bool fr] w fun e w' => e = .returned (.tuple #[]) ∧ RdAt w w' b hi (prT s ws fr) := by
  obtain ⟨i0, hii, hz0, hz1, hz2⟩ := info_parts Tryz.info42
  have HP3 := Lib.hid (fun W hq hr => impl_ParseInt (wAt ws 3) W (wAt_size hsz 3) hq hr)
  have HP4 := Lib.hid (fun W hq hr => impl_ParseInt (wAt ws 4) W (wAt_size hsz 4) hq hr)
  have HN1 := Lib.hid (fun W ha => impl_NodeNamed s (wAt ws 1) A k c B m d W (by omega) hwf (Nat.le_trans (wAt_size hsz 1) (by decide)) ha)
  have HN2 := Lib.hid (fun W ha => impl_NodeNamed s (wAt ws 2) A k c B m d W (by omega) hwf (Nat.le_trans (wAt_size hsz 2) (by decide)) ha)
  have HV : Hid (prT s ws fr = ⟨s.ns, s.ts ++ [⟨namR s.ns (wAt ws 1), namR s.ns (wAt ws 2), (parseOf (wAt ws 3)).getD 0, (parseOf (wAt ws 4)).getD 0, fr⟩], s.h⟩) := Lib.hid rfl
  unfold waV
  unfold shV at HN1 HN2
  obtain ⟨h, hh⟩ : ∃ h, h = s.h := ⟨_, rfl⟩
  rw [← hh] at HN1 HN2
  generalize wAt ws 0 = x0
  obtain ⟨n3, hn3⟩ : ∃ n, n = (parseOf (wAt ws 3)).getD 0 := ⟨_, rfl⟩
  rw [← hn3] at HP3 HV
  obtain ⟨q3, hq3⟩ : ∃ q, q = (parseOf (wAt ws 3)).isSome := ⟨_, rfl⟩
  rw [← hq3] at HP3
  obtain ⟨n4, hn4⟩ : ∃ n, n = (parseOf (wAt ws 4)).getD 0 := ⟨_, rfl⟩
  rw [← hn4] at HP4 HV
  obtain ⟨q4, hq4⟩ : ∃ q, q = (parseOf (wAt ws 4)).isSome := ⟨_, rfl⟩
  rw [← hq4] at HP4
  obtain ⟨u, hu⟩ : ∃ u, u = namR s.ns (wAt ws 1) := ⟨_, rfl⟩
  rw [← hu] at HN1 HV
  obtain ⟨v, hv⟩ : ∃ v, v = namR s.ns (wAt ws 2) := ⟨_, rfl⟩
  rw [← hv] at HN2 HV
  obtain ⟨x1, hx1⟩ : ∃ x, x = wAt ws 1 := ⟨_, rfl⟩
  rw [← hx1] at HN1
  rw [← hx1]
  obtain ⟨x2, hx2⟩ : ∃ x, x = wAt ws 2 := ⟨_, rfl⟩
  rw [← hx2] at HN2
  rw [← hx2]
  obtain ⟨x3, hx3⟩ : ∃ x, x = wAt ws 3 := ⟨_, rfl⟩
  rw [← hx3] at HP3
  rw [← hx3]
  obtain ⟨x4, hx4⟩ : ∃ x, x = wAt ws 4 := ⟨_, rfl⟩
  rw [← hx4] at HP4
  rw [← hx4]
  obtain ⟨w1, hw1⟩ : ∃ W, W = w.alloc (.cells #[.string x0, .string x1, .string x2, .string x3, .string x4] 62) := ⟨_, rfl⟩
  have B_w1 : Below w.heap.size w w1 := by rw [hw1]; exact (Below.refl _ _).alloc (Nat.le_refl _) _
  have a1_w1 : w1.cell? ⟨w.heap.size, 1, none⟩ = some (.string x1) := by rw [hw1]; go_simp
  have a2_w1 : w1.cell? ⟨w.heap.size, 2, none⟩ = some (.string x2) := by rw [hw1]; go_simp
  have a3_w1 : w1.cell? ⟨w.heap.size, 3, none⟩ = some (.string x3) := by rw [hw1]; go_simp
  have a4_w1 : w1.cell? ⟨w.heap.size, 4, none⟩ = some (.string x4) := by rw [hw1]; go_simp
  have z1 : w.heap.size < w1.heap.size := by rw [hw1]; simp
  have R1 := Lib.hid (hr.below B_w1)
  have HP := Lib.hid (pow_kept hp B_w1)
  have HE := Lib.hid (errs_kept he B_w1)
  have BW1 := Lib.hid B_w1
  have HW1 := Lib.hid hw1
  have HHH := Lib.hid hh
  clear hw1 B_w1 hr hp he hn3 hq3 hn4 hq4 hu hv hx1 hx2 hx3 hx4 hsz hwf hh
  go_enter Tryz.func76, Tryz.ntmps76
  go_upto_region 1 with (fail)
  rw [← HW1.out]
  clear HW1
  go_wp2_with fail
  refine (HP3.out _ HP.out HE.out).mono ?_
  rintro e w2 ⟨rfl, b2⟩
  have R2 := Lib.hid (R1.out.below b2)
  have B2 := Lib.hid b2
  have z2 := b2.size
  have a1_w2 := (b2.cell (p := ⟨w.heap.size, 1, none⟩) z1).trans a1_w1
  have a2_w2 := (b2.cell (p := ⟨w.heap.size, 2, none⟩) z1).trans a2_w1
  have a4_w2 := (b2.cell (p := ⟨w.heap.size, 4, none⟩) z1).trans a4_w1
  clear b2 a1_w1 a2_w1 a3_w1 a4_w1
  go_wp2_with fail
  refine (HP4.out _ (pow_kept HP.out B2.out) (errs_kept HE.out B2.out)).mono ?_
  rintro e w3 ⟨rfl, b3⟩
  have R3 := Lib.hid (R2.out.below b3)
  have B3 := Lib.hid (BW1.out.trans ((B2.out.trans (b3.mono z2)).mono BW1.out.size))
  have z3 := b3.size
  have a1_w3 := (b3.cell (p := ⟨w.heap.size, 1, none⟩) (Nat.lt_of_lt_of_le z1 z2)).trans a1_w2
  have a2_w3 := (b3.cell (p := ⟨w.heap.size, 2, none⟩) (Nat.lt_of_lt_of_le z1 z2)).trans a2_w2
  clear b3 a1_w2 a2_w2 a4_w2 R1 R2 B2
  obtain ⟨s0, s1, s2, f0, f1, f2⟩ := R3.out.box
  rw [← HHH.out] at s2
  have sl := R3.out.box.lt
  have zw3 : w.heap.size < w3.heap.size := by omega
  have zb3 : b < w3.heap.size := by omega
  go_upto_region 3 with (fail)
  obtain ⟨C, hC⟩ : ∃ C : World → Prop, C = fun W => Below w3.heap.size w3 W := ⟨_, rfl⟩
  have qb : ∀ W, C W → Below w3.heap.size w3 W := fun W h => by rw [hC] at h; exact h
  have qc : ∀ W, Below w3.heap.size w3 W → C W := fun W h => by rw [hC]; exact h
  have hC0 : C (World.drew w3) := qc _ (Below.refl _ _).drew
  have qf0 : ∀ zc : WC C, zc.w.cell? ⟨w.heap.size, 1, none⟩ = some (.string x1) := fun zc => ((qb _ zc.h).cell (p := ⟨w.heap.size, 1, none⟩) zw3).trans a1_w3
  have qf1 : ∀ zc : WC C, zc.w.cell? ⟨w.heap.size, 2, none⟩ = some (.string x2) := fun zc => ((qb _ zc.h).cell (p := ⟨w.heap.size, 2, none⟩) zw3).trans a2_w3
  have qf2 : ∀ zc : WC C, zc.w.cell? ⟨b, 0, none⟩ = some (.slice A k c) := fun zc => ((qb _ zc.h).cell (p := ⟨b, 0, none⟩) zb3).trans s0
  have qf3 : ∀ zc : WC C, zc.w.cell? ⟨b, 1, none⟩ = some (.slice B m d) := fun zc => ((qb _ zc.h).cell (p := ⟨b, 1, none⟩) zb3).trans s1
  have qf4 : ∀ zc : WC C, zc.w.cell? ⟨b, 2, none⟩ = some (.int .i64 h) := fun zc => ((qb _ zc.h).cell (p := ⟨b, 2, none⟩) zb3).trans s2
  have A0 : Hid (∀ zc : WC C, Calls Tryz.prog 91 #[.agg #[.slice A k c, .slice B m d, .int .i64 h], .string x1] zc.w fun e w2 => e = .returned (.int .i64 u) ∧ ∃ y : WC C, w2 = y.w) := Lib.hid (fun zc => wc_calls ((HN1.out zc.w (R3.out.at_.below (qb _ zc.h))).mono fun e w2 k => ⟨k.1, qc _ ((qb _ zc.h).trans (k.2.mono (qb _ zc.h).size))⟩))
  have A1 : Hid (∀ zc : WC C, Calls Tryz.prog 91 #[.agg #[.slice A k c, .slice B m d, .int .i64 h], .string x2] zc.w fun e w2 => e = .returned (.int .i64 v) ∧ ∃ y : WC C, w2 = y.w) := Lib.hid (fun zc => wc_calls ((HN2.out zc.w (R3.out.at_.below (qb _ zc.h))).mono fun e w2 k => ⟨k.1, qc _ ((qb _ zc.h).trans (k.2.mono (qb _ zc.h).size))⟩))
  have nwc : Nonempty (WC C) := ⟨⟨_, hC0⟩⟩
  clear hC
  refine wp_region_any (by kernel_rfl) ?_
  refine wpAny_take (i := 0) (v := .pointer (some ⟨b, 0, none⟩)) rfl (by kernel_rfl) (by kernel_rfl) (by kernel_rfl) (fun _ _ _ h => h) (.inl ⟨rfl, fun w => by go_simp⟩) ?_
  refine wpAny_take (i := 1) (v := .pointer (some ⟨b, 0, none⟩)) rfl (by kernel_rfl) (by kernel_rfl) (by kernel_rfl) (fun _ _ _ h => h) (.inl ⟨rfl, fun w => by go_simp⟩) ?_
  refine wpAny_take (i := 2) (v := .pointer (some ⟨b, 0, none⟩)) rfl (by kernel_rfl) (by kernel_rfl) (by kernel_rfl) (fun _ _ _ h => h) (.inl ⟨rfl, fun w => by go_simp⟩) ?_
  refine wpAny_take (i := 3) (v := .pointer (some ⟨b, 1, none⟩)) rfl (by kernel_rfl) (by kernel_rfl) (by kernel_rfl) (fun _ _ _ h => h) (.inl ⟨rfl, fun w => by go_simp⟩) ?_
  show wpAny _ _ _ _ 22 _ (Act.mk (List.toArray ((Value.pointer (some ⟨b, 0, none⟩)) :: (Value.agg #[.string x0, .string x1, .string x2, .string x3, .string x4]) :: (Value.bool fr) :: undef :: (Value.pointer (some ⟨w.heap.size, 0, none⟩)) :: undef :: (Value.int .i64 n3) :: (Value.bool q3) :: (Value.int .i64 n4) :: (Value.bool q4) :: (Value.tuple #[.int .i64 n3, .bool q3]) :: (Value.pointer (some ⟨w.heap.size, 3, none⟩)) :: (Value.string x3) :: (Value.tuple #[.int .i64 n3, .bool q3]) :: (Value.int .i64 n3) :: (Value.bool q3) :: (Value.tuple #[.int .i64 n4, .bool q4]) :: (Value.pointer (some ⟨w.heap.size, 4, none⟩)) :: (Value.string x4) :: (Value.tuple #[.int .i64 n4, .bool q4]) :: (Value.int .i64 n4) :: (Value.bool q4) :: (Value.pointer (some ⟨b, 0, none⟩)) :: (Value.pointer (some ⟨b, 0, none⟩)) :: (Value.pointer (some ⟨b, 0, none⟩)) :: (Value.pointer (some ⟨b, 1, none⟩)) :: undef :: undef :: undef :: undef :: undef :: undef :: undef :: undef :: undef :: undef :: undef :: undef :: undef :: undef :: undef :: undef :: undef :: undef :: undef :: undef :: undef :: [])) []) _
  refine region_late (fun w' => ∃ x : WC C, w' = x.w) 4 21 (v := .slice B m d) (by kernel_rfl) ⟨⟨_, hC0⟩, rfl⟩ rfl rfl ⟨rfl, fun w' hw' => (by obtain ⟨zc, rfl⟩ := hw'; have q9 := qf3 zc; go_simp)⟩ ?_
  simp only [List.take_succ_cons, List.take_zero, List.drop_succ_cons, List.drop_zero]
  show wpQuiet _ _ _ _ _ (Act.mk (List.toArray ((Value.pointer (some ⟨b, 0, none⟩)) :: (Value.agg #[.string x0, .string x1, .string x2, .string x3, .string x4]) :: (Value.bool fr) :: undef :: (Value.pointer (some ⟨w.heap.size, 0, none⟩)) :: undef :: (Value.int .i64 n3) :: (Value.bool q3) :: (Value.int .i64 n4) :: (Value.bool q4) :: (Value.tuple #[.int .i64 n3, .bool q3]) :: (Value.pointer (some ⟨w.heap.size, 3, none⟩)) :: (Value.string x3) :: (Value.tuple #[.int .i64 n3, .bool q3]) :: (Value.int .i64 n3) :: (Value.bool q3) :: (Value.tuple #[.int .i64 n4, .bool q4]) :: (Value.pointer (some ⟨w.heap.size, 4, none⟩)) :: (Value.string x4) :: (Value.tuple #[.int .i64 n4, .bool q4]) :: (Value.int .i64 n4) :: (Value.bool q4) :: (Value.pointer (some ⟨b, 0, none⟩)) :: (Value.pointer (some ⟨b, 0, none⟩)) :: (Value.pointer (some ⟨b, 0, none⟩)) :: (Value.pointer (some ⟨b, 1, none⟩)) :: (Value.slice B m d) :: undef :: undef :: undef :: undef :: undef :: undef :: undef :: undef :: undef :: undef :: undef :: undef :: undef :: undef :: undef :: undef :: undef :: undef :: undef :: undef :: [])) [])
  repeat (go_big_quiet_step (first | (go_at_call_of 91 (Value.string x1); with_reducible exact A0.out _) | (go_at_call_of 91 (Value.string x2); with_reducible exact A1.out _)))
  refine wpQuiet_nil ?_
  refine ⟨rfl, ?_⟩
  rintro _ ⟨xq, rfl⟩
  have bq := qb _ xq.h
  have hcl := fun o => qc _ (bq.alloc bq.size o)
  obtain ⟨wq, hwq⟩ : ∃ wq, wq = xq.w := ⟨_, rfl⟩
  rw [← hwq] at bq hcl ⊢
  refine ⟨.slice (some ⟨wq.heap.size, 0, none⟩) 1 1, wq.alloc (.cells #[.int .i64 u, .int .i64 v, .int .i64 n3, .int .i64 n4, .bool fr] 42), (by go_simp), ⟨⟨_, hcl _⟩, rfl⟩, ?_⟩
  clear hwq xq nwc hC0 qb qc qf0 qf1 qf2 qf3 qf4 A0 A1 hcl C
  simp only [List.drop_succ_cons, List.drop_zero]
  have RQ := Lib.hid (R3.out.below bq)
  have BQ := Lib.hid (B3.out.trans (bq.mono B3.out.size))
  have zq := bq.size
  have zbq : b < wq.heap.size := by omega
  have zbq1 : b + 1 ≤ wq.heap.size := by omega
  clear bq s0 s1 s2 f0 f1 f2 a1_w3 a2_w3
  go_wp2_with (at_builtin; refine wpList_append_lies _ rfl _ _ 23 rfl (b + 1) 42 i0 (.agg #[.int .i64 0, .int .i64 0, .int .i64 0, .int .i64 0, .bool false]) 5 40 Tryz.underlying23 hii hz0 hz1 hz2 rfl (by decide) _ _ _ rfl (RQ.out.own.ties.alloc _) ⟨_, 0, none⟩ 1 1 [.int .i64 u, .int .i64 v, .int .i64 n3, .int .i64 n4, .bool fr] rfl rfl (World.news_of_block (heap_newY _ _ _ (by first | rfl | (simp; done)))) (one_c5T _ _ _ _ _) (by decide) (by unfold maxLen; omega) (by omega) (by first | omega | (simp; omega)) _ rfl ?_)
  intro g3 cap w6 ho6 hg6 hat6 hl6
  have D6 := Lib.hid (RdS.tie (t := ⟨u, v, n3, n4, fr⟩) (RQ.out.alloc _) h1 (by simp; omega) hg6 (by rw [cellsT_append]; exact ho6) (hat6.imp id (fun h9 => by rw [h9]; simp)))
  obtain ⟨s0, s1, s2, f0, f1, f2⟩ := RdS.boxT (RQ.out.alloc _) hg6
  have hl6z : b < w6.heap.size := Nat.lt_of_lt_of_le zbq (Nat.le_trans (by simp) hg6.size)
  have D7 := Lib.hid (RdAt.from D6.out (BQ.out.alloc (by omega) _))
  clear ho6 hg6 hat6 hl6 D6
  go_wp2_with fail
  go_end0
  exact ⟨rfl, by rw [HV.out]; exact D7.out⟩

set_option maxRecDepth 100000 in
set_option maxHeartbeats 8000000 in
theorem read_tie (ws : List ByteArray) (b hi : Nat) (s : GS) (A : Option Addr) (k c : Nat) (B : Option Addr) (m d : Nat) (zs : List NL) (w : World) (hsz : ∀ x ∈ ws, x.size ≤ 1048576) (hk : k ≤ 1000) (hm : m ≤ 1000) (hwf : ∀ e ∈ s.ns, e.wf) (hr : RdS w b hi s A k c B m d zs) (h1 : b < hi) (h2 : hi ≤ w.heap.size) (hp : Pow10 w) (he : Errs w) :
    Calls Tryz.prog 60 #[.pointer (some ⟨b, 0, none⟩), waV ws] w fun e w' => e = .returned (.tuple #[]) ∧ RdAt w w' b hi (prT s ws false) := by
  obtain ⟨w1, hw1⟩ : ∃ W, W = w.alloc (.cells #[.string (wAt ws 0), .string (wAt ws 1), .string (wAt ws 2), .string (wAt ws 3), .string (wAt ws 4)] 62) := ⟨_, rfl⟩
  have B_w1 : Below w.heap.size w w1 := by rw [hw1]; exact (Below.refl _ _).alloc (Nat.le_refl _) _
  have HC := Lib.hid (add_tie ws false b hi s A k c B m d zs w1 hsz hk hm hwf (hr.below B_w1) h1 (Nat.le_trans h2 B_w1.size) (pow_kept hp B_w1) (errs_kept he B_w1))
  unfold waV at HC ⊢
  generalize wAt ws 0 = x0 at *
  generalize wAt ws 1 = x1 at *
  generalize wAt ws 2 = x2 at *
  generalize wAt ws 3 = x3 at *
  generalize wAt ws 4 = x4 at *
  have a0 : w1.cell? ⟨w.heap.size, 0, none⟩ = some (.string x0) := by rw [hw1]; go_simp
  have a1 : w1.cell? ⟨w.heap.size, 1, none⟩ = some (.string x1) := by rw [hw1]; go_simp
  have a2 : w1.cell? ⟨w.heap.size, 2, none⟩ = some (.string x2) := by rw [hw1]; go_simp
  have a3 : w1.cell? ⟨w.heap.size, 3, none⟩ = some (.string x3) := by rw [hw1]; go_simp
  have a4 : w1.cell? ⟨w.heap.size, 4, none⟩ = some (.string x4) := by rw [hw1]; go_simp
  have HW1 := Lib.hid hw1
  have BW1 := Lib.hid B_w1
  clear hw1 B_w1 hr hp he hsz hwf
  go_enter Tryz.func60, Tryz.ntmps60
  go_upto_region 1 with (fail)
  rw [← HW1.out]
  clear HW1
  go_wp2_with fail
  refine HC.out.mono ?_
  rintro e w2 ⟨rfl, hat⟩
  have HT := Lib.hid hat
  clear hat
  go_wp2_with fail
  go_end0
  exact ⟨rfl, HT.out.from BW1.out⟩

set_option maxRecDepth 100000 in
set_option maxHeartbeats 8000000 in
theorem read_free (ws : List ByteArray) (b hi : Nat) (s : GS) (A : Option Addr) (k c : Nat) (B : Option Addr) (m d : Nat) (zs : List NL) (w : World) (hsz : ∀ x ∈ ws, x.size ≤ 1048576) (hk : k ≤ 1000) (hm : m ≤ 1000) (hwf : ∀ e ∈ s.ns, e.wf) (hr : RdS w b hi s A k c B m d zs) (h1 : b < hi) (h2 : hi ≤ w.heap.size) (hp : Pow10 w) (he : Errs w) :
    Calls Tryz.prog 61 #[.pointer (some ⟨b, 0, none⟩), waV ws] w fun e w' => e = .returned (.tuple #[]) ∧ RdAt w w' b hi (prT s ws true) := by
  obtain ⟨w1, hw1⟩ : ∃ W, W = w.alloc (.cells #[.string (wAt ws 0), .string (wAt ws 1), .string (wAt ws 2), .string (wAt ws 3), .string (wAt ws 4)] 62) := ⟨_, rfl⟩
  have B_w1 : Below w.heap.size w w1 := by rw [hw1]; exact (Below.refl _ _).alloc (Nat.le_refl _) _
  have HC := Lib.hid (add_tie ws true b hi s A k c B m d zs w1 hsz hk hm hwf (hr.below B_w1) h1 (Nat.le_trans h2 B_w1.size) (pow_kept hp B_w1) (errs_kept he B_w1))
  unfold waV at HC ⊢
  generalize wAt ws 0 = x0 at *
  generalize wAt ws 1 = x1 at *
  generalize wAt ws 2 = x2 at *
  generalize wAt ws 3 = x3 at *
  generalize wAt ws 4 = x4 at *
  have a0 : w1.cell? ⟨w.heap.size, 0, none⟩ = some (.string x0) := by rw [hw1]; go_simp
  have a1 : w1.cell? ⟨w.heap.size, 1, none⟩ = some (.string x1) := by rw [hw1]; go_simp
  have a2 : w1.cell? ⟨w.heap.size, 2, none⟩ = some (.string x2) := by rw [hw1]; go_simp
  have a3 : w1.cell? ⟨w.heap.size, 3, none⟩ = some (.string x3) := by rw [hw1]; go_simp
  have a4 : w1.cell? ⟨w.heap.size, 4, none⟩ = some (.string x4) := by rw [hw1]; go_simp
  have HW1 := Lib.hid hw1
  have BW1 := Lib.hid B_w1
  clear hw1 B_w1 hr hp he hsz hwf
  go_enter Tryz.func61, Tryz.ntmps61
  go_upto_region 1 with (fail)
  rw [← HW1.out]
  clear HW1
  go_wp2_with fail
  refine HC.out.mono ?_
  rintro e w2 ⟨rfl, hat⟩
  have HT := Lib.hid hat
  clear hat
  go_wp2_with fail
  go_end0
  exact ⟨rfl, HT.out.from BW1.out⟩

end Go.Proofs.YtgajodcgedhikaaGreatDoor
