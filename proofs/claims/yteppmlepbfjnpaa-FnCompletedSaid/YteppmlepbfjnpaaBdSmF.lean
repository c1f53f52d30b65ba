/-
  PLAIN: the graph of a network, its consistency, its conflict, its windows, its times.
  WALKS of spec.l05Times, spec.BrokenLink and spec.IsSchedule.
  PLAIN: partial schedules: the links that fix times, what can be extended, the completion, open events.
  WALKS of spec.PartialOk and spec.CountOpen.
-/
import Derived.Test.YteppmlepbfjnpaaBdGrN
import Derived.Test.YteppmlepbfjnpaaBdTgC
import Derived.Test.YteppmlepbfjnpaaTbE
import Derived.Test.YteppmlepbfjnpaaMathF
import Derived.Test.YteppmlepbfjnpaaBdIvOk
import Derived.Deep.RegionHeld3
import Derived.Deep.CutRange
namespace Go.Proofs.Yteppmlepbfjnpaa
open Go.RowKit
set_option linter.unusedVariables false
set_option linter.unusedSimpArgs false

theorem RowAt.of_eq {w : World} {A : Option Addr} {xs ys : List Value} (h : RowAt w A xs) (e : xs = ys) : RowAt w A ys := e ▸ h
theorem own_edgeS {W : World} {B t k c : Nat} {A : Option Addr} {es : List GE} (h : W.ownsRow B t 3 (.slice A k c) k (cellsE es)) : EdgeAt W A es := by
  obtain ⟨_, _, hv, _, hE⟩ := ownE_form h
  injection hv with hv
  rw [hv]; exact hE
def grN (n : Int) (es : List GL) : Int := if okS n es then n else 0
def grE (n : Int) (es : List GL) : List GE := if okS n es then gE es else []
theorem grN_yes {n : Int} {es : List GL} (h : okS n es = true) : grN n es = n := by unfold grN; rw [if_pos h]
theorem grE_yes {n : Int} {es : List GL} (h : okS n es = true) : grE n es = gE es := by unfold grE; rw [if_pos h]
theorem grN_no {n : Int} {es : List GL} (h : okS n es = false) : grN n es = 0 := by unfold grN; rw [if_neg (by simp [h])]
theorem grE_no {n : Int} {es : List GL} (h : okS n es = false) : grE n es = [] := by unfold grE; rw [if_neg (by simp [h])]
theorem gE_len80 {n : Int} {es : List GL} (h : okS n es = true) : (gE es).length ≤ 80 ∧ (gI es).length = (gE es).length := by
  have h1 := okS_rng h
  have h2 := gE_length es es.length (Nat.le_refl _)
  rw [List.take_of_length_le (Nat.le_refl _)] at h2
  unfold gI
  omega
theorem grE_len (n : Int) (es : List GL) : (grE n es).length ≤ 80 := by
  unfold grE
  split
  · next h => exact (gE_len80 h).1
  · simp
/-- There is a schedule. -/
def consR (n : Int) (es : List GL) : Bool := okS n es && decide ((cycR n (gE es)).length = 0)
def confR (n : Int) (es : List GL) : List Int := if okS n es then (cycR n (gE es)).map (fun q => (gI es)[q.toNat]?.getD 0) else []
theorem confR_len (n : Int) (es : List GL) : (confR n es).length ≤ 8 := by
  unfold confR
  split
  · rw [List.length_map]; exact cycR_len _ _
  · simp
theorem okS_okG {n : Int} {es : List GL} (h : okS n es = true) : okG n (gE es) = true := by
  have h1 := okS_rng h
  have h2 := (gE_len80 h).1
  unfold okG
  rw [decide_eq_true ⟨by omega, h1.2.1, h2⟩, Bool.true_and, List.all_eq_true]
  intro x hx
  unfold gE at hx
  rw [List.mem_flatMap] at hx
  obtain ⟨e, he, hxe⟩ := hx
  obtain ⟨f1, f2, f3⟩ := okS_link h he
  have f4 := okI_of f3
  unfold lkE lkH lkL at hxe
  rw [List.mem_append] at hxe
  unfold okE
  rw [Bool.and_eq_true, Bool.and_eq_true]
  rcases hxe with hxe | hxe
  · split at hxe
    · simp at hxe
    · simp at hxe; subst hxe
      exact ⟨⟨decide_eq_true f1, decide_eq_true f2⟩, decide_eq_true ⟨by dsimp only; omega, by dsimp only; omega⟩⟩
  · split at hxe
    · simp at hxe
    · simp at hxe; subst hxe
      exact ⟨⟨decide_eq_true f2, decide_eq_true f1⟩, decide_eq_true ⟨by dsimp only; omega, by dsimp only; omega⟩⟩
theorem closedTo_in {es : List GE} {zs : List Int} : ∀ {m j : Nat}, closedTo es zs m = true → j < m → (hj : j < zs.length) → 0 ≤ zs[j] ∧ zs[j] < es.length
  | 0, j, _, h, _ => by omega
  | m + 1, j, h, hm, hj => by
    unfold closedTo at h
    rw [Bool.and_eq_true] at h
    by_cases e : j = m
    · subst e
      have h2 := h.2
      unfold linkE at h2
      rw [List.getElem?_eq_getElem hj] at h2
      split at h2
      · next z b hz hb =>
        injection hz with hz
        subst hz
        rw [Bool.and_eq_true, Bool.and_eq_true] at h2
        exact of_decide_eq_true h2.1.1
      · simp at h2
    · exact closedTo_in h.1 (by omega) hj
/-- Each index of the reported cycle is an edge's. -/
theorem cycR_in {n : Int} {es : List GL} (h : okS n es = true) {q : Int} (hq : q ∈ cycR n (gE es)) : 0 ≤ q ∧ q < (gE es).length := by
  have hg := okS_okG h
  have h1 := okS_rng h
  obtain ⟨N, rfl⟩ : ∃ N : Nat, n = N := ⟨n.toNat, by omega⟩
  by_cases hc : (endC N (gE es)).2 = -1
  · rw [cycR_nil hc] at hq; simp at hq
  · have hn := cyc_isneg hg hc
    unfold negC at hn
    simp only [Bool.and_eq_true] at hn
    have hcl := hn.1.2
    obtain ⟨j, hj, rfl⟩ := List.getElem_of_mem hq
    exact closedTo_in hcl hj hj
def wTab (n : Int) (es : List GL) : List Int := (closeR n (gE es)).2.1
def wB (n : Int) (es : List GL) (v : Int) : Bool := consR n es && winB (closeR n (gE es)).1 (wTab n es) 0 v
def wL (n : Int) (es : List GL) (v : Int) : Int := if wB n es v then winL (closeR n (gE es)).1 (wTab n es) 0 v else 0
def wH (n : Int) (es : List GL) (v : Int) : Int := if wB n es v then winH (closeR n (gE es)).1 (wTab n es) 0 v else 0
def wV (n : Int) (es : List GL) (v : Int) : Value := .tuple #[ivV (wL n es v) (wH n es v), .bool (wB n es v)]

end Go.Proofs.Yteppmlepbfjnpaa

namespace Go.Proofs.Yteppmlepbfjnpaa
open Go.RowKit
set_option linter.unusedVariables false
set_option linter.unusedSimpArgs false

def inB (x : Int) : Bool := decide (-1000000 ≤ x) && decide (x ≤ 1000000)
/-- Times that fit a valid network. -/
def tmR (n : Int) (es : List GL) (ts : List Int) : Bool := okS n es && decide ((ts.length : Int) = n) && ts.all inB
def holdsL (ts : List Int) (e : GL) : Bool := inI e.l e.h (ts[e.t.toNat]?.getD 0 - ts[e.f.toNat]?.getD 0)
def brJ (es : List GL) (ts : List Int) : Int := if es.findIdx (fun e => !holdsL ts e) < es.length then (es.findIdx (fun e => !holdsL ts e) : Nat) else -1
def brR (n : Int) (es : List GL) (ts : List Int) : Int := if tmR n es ts then brJ es ts else -1
def schR (n : Int) (es : List GL) (ts : List Int) : Bool := tmR n es ts && decide (ts[0]?.getD 0 = 0) && decide (brR n es ts < 0)
theorem tmR_ok {n : Int} {es : List GL} {ts : List Int} (h : tmR n es ts = true) : okS n es = true ∧ (ts.length : Int) = n ∧ ∀ x ∈ ts, -1000000 ≤ x ∧ x ≤ 1000000 := by
  unfold tmR at h
  rw [Bool.and_eq_true, Bool.and_eq_true, List.all_eq_true] at h
  refine ⟨h.1.1, of_decide_eq_true h.1.2, fun x hx => ?_⟩
  have := h.2 x hx
  unfold inB at this
  rw [Bool.and_eq_true] at this
  exact ⟨of_decide_eq_true this.1, of_decide_eq_true this.2⟩
theorem allI_take_of (ts : List Int) (k : Nat) (h : k < ts.length) (ha : (ts.take k).all inB = true) (hp : inB ts[k] = true) : (ts.take (k + 1)).all inB = true := by
  rw [List.take_add_one, List.getElem?_eq_getElem h, List.all_append, ha]; simpa using hp
theorem tmR_not {n : Int} {es : List GL} {ts : List Int} {k : Nat} (h : k < ts.length) (hp : inB ts[k] = false) : tmR n es ts = false := by
  have : ts.all inB = false := by rw [List.all_eq_false]; exact ⟨ts[k], List.getElem_mem _, by simp [hp]⟩
  unfold tmR; rw [this, Bool.and_false]
theorem tmR_yes {n : Int} {es : List GL} {ts : List Int} (h : okS n es = true) (hl : (ts.length : Int) = n) (ha : (ts.take ts.length).all inB = true) : tmR n es ts = true := by
  rw [List.take_of_length_le (Nat.le_refl _)] at ha
  unfold tmR; rw [h, decide_eq_true hl, ha]; rfl
theorem brJ_at {es : List GL} {ts : List Int} {j : Nat} (hj : j < es.length) (ha : (es.take j).all (holdsL ts) = true) (hp : holdsL ts es[j] = false) : brJ es ts = j := by
  have h : es.findIdx (fun e => !holdsL ts e) = j := by
    rw [List.findIdx_eq hj]
    refine ⟨by simp [hp], fun i hi => ?_⟩
    rw [List.all_eq_true] at ha
    have := ha es[i] (List.mem_take_iff_getElem.2 ⟨i, by omega, rfl⟩)
    simp [this]
  unfold brJ; rw [h, if_pos hj]
theorem brJ_none {es : List GL} {ts : List Int} (ha : (es.take es.length).all (holdsL ts) = true) : brJ es ts = -1 := by
  rw [List.take_of_length_le (Nat.le_refl _)] at ha
  rw [List.all_eq_true] at ha
  have h : es.findIdx (fun e => !holdsL ts e) = es.length := by
    rw [List.findIdx_eq_length]
    intro x hx
    simp [ha x hx]
  unfold brJ; rw [h, if_neg (by omega)]
theorem allH_take_of (es : List GL) (ts : List Int) (k : Nat) (h : k < es.length) (ha : (es.take k).all (holdsL ts) = true) (hp : holdsL ts es[k] = true) : (es.take (k + 1)).all (holdsL ts) = true := allL_take_of es _ k h ha hp
theorem brJ_rng (es : List GL) (ts : List Int) : -1 ≤ brJ es ts := by unfold brJ; split <;> omega
theorem row_get {w : World} {A : Option Addr} {zs : List Int} (h : RowAt w A (zs.map intV)) {q : Nat} (hq : q < zs.length) : ∃ g o, A = some ⟨g, o, none⟩ ∧ g < w.heap.size ∧ w.cell? ⟨g, o + q, none⟩ = some (.int .i64 zs[q]) := by
  obtain ⟨g, o, hA, hg, hc⟩ := h (by simp; omega)
  refine ⟨g, o, hA, hg, ?_⟩
  have := hc q (by simp; omega)
  simpa [intV] using this

end Go.Proofs.Yteppmlepbfjnpaa

namespace Go.Proofs.Yteppmlepbfjnpaa
open Go.RowKit
set_option linter.unusedVariables false
set_option linter.unusedSimpArgs false

def inP (x : Int) : Bool := decide (-1 ≤ x) && decide (x ≤ 999999)
/-- A partial schedule. -/
def pokR (n : Int) (es : List GL) (ts : List Int) : Bool := okS n es && decide ((ts.length : Int) = n) && decide (ts[0]?.getD 0 = 0) && ts.all inP
theorem pokR_ok {n : Int} {es : List GL} {ts : List Int} (h : pokR n es ts = true) : okS n es = true ∧ (ts.length : Int) = n ∧ ts[0]?.getD 0 = 0 ∧ ∀ x ∈ ts, -1 ≤ x ∧ x ≤ 999999 := by
  unfold pokR at h
  rw [Bool.and_eq_true, Bool.and_eq_true, Bool.and_eq_true, List.all_eq_true] at h
  refine ⟨h.1.1.1, of_decide_eq_true h.1.1.2, of_decide_eq_true h.1.2, fun x hx => ?_⟩
  have := h.2 x hx
  unfold inP at this
  rw [Bool.and_eq_true] at this
  exact ⟨of_decide_eq_true this.1, of_decide_eq_true this.2⟩
theorem allP_take_of (ts : List Int) (k : Nat) (h : k < ts.length) (ha : (ts.take k).all inP = true) (hp : inP ts[k] = true) : (ts.take (k + 1)).all inP = true := by
  rw [List.take_add_one, List.getElem?_eq_getElem h, List.all_append, ha]; simpa using hp
theorem pokR_not {n : Int} {es : List GL} {ts : List Int} {k : Nat} (h : k < ts.length) (hp : inP ts[k] = false) : pokR n es ts = false := by
  have : ts.all inP = false := by rw [List.all_eq_false]; exact ⟨ts[k], List.getElem_mem _, by simp [hp]⟩
  unfold pokR; rw [this, Bool.and_false]
theorem pokR_yes {n : Int} {es : List GL} {ts : List Int} (h : okS n es = true) (hl : (ts.length : Int) = n) (h0 : ts[0]?.getD 0 = 0) (ha : (ts.take ts.length).all inP = true) : pokR n es ts = true := by
  rw [List.take_of_length_le (Nat.le_refl _)] at ha
  unfold pokR; rw [h, decide_eq_true hl, decide_eq_true h0, ha]; rfl
/-- The link that fixes event j at x, if it is to be fixed. -/
def fx1 (x : Int) (j : Nat) : List GL := if 0 < j ∧ x ≠ -1 then [⟨0, j, x, x⟩] else []
def fixJ (ts : List Int) : Nat → List GL
  | 0 => []
  | j + 1 => fixJ ts j ++ (match ts[j]? with | some x => fx1 x j | none => [])
def fixL (ts : List Int) : List GL := fixJ ts ts.length
theorem fx1_len (x : Int) (j : Nat) : (fx1 x j).length ≤ 1 := by unfold fx1; split <;> simp
theorem fixJ_len (ts : List Int) : ∀ j, (fixJ ts j).length ≤ j
  | 0 => by simp [fixJ]
  | j + 1 => by
    have := fixJ_len ts j
    unfold fixJ
    rw [List.length_append]
    split
    · next x _ => have := fx1_len x j; omega
    · simp; omega
theorem fixJ_next {ts : List Int} {j : Nat} {x : Int} (h : ts[j]? = some x) : fixJ ts (j + 1) = fixJ ts j ++ fx1 x j := by
  conv => lhs; unfold fixJ
  rw [h]
def fxR (n : Int) (es : List GL) (ts : List Int) : Bool := pokR n es ts && okS n (es ++ fixL ts)
def fxN (n : Int) (es : List GL) (ts : List Int) : Int := if fxR n es ts then n else 0
def fxE (n : Int) (es : List GL) (ts : List Int) : List GL := if fxR n es ts then es ++ fixL ts else []
theorem fxR_ok {n : Int} {es : List GL} {ts : List Int} (h : fxR n es ts = true) : pokR n es ts = true ∧ okS n (es ++ fixL ts) = true := by unfold fxR at h; rwa [Bool.and_eq_true] at h
theorem fxN_yes {n : Int} {es : List GL} {ts : List Int} (h : fxR n es ts = true) : fxN n es ts = n := by unfold fxN; rw [if_pos h]
theorem fxE_yes {n : Int} {es : List GL} {ts : List Int} (h : fxR n es ts = true) : fxE n es ts = es ++ fixL ts := by unfold fxE; rw [if_pos h]
theorem fxN_no {n : Int} {es : List GL} {ts : List Int} (h : fxR n es ts = false) : fxN n es ts = 0 := by unfold fxN; rw [if_neg (by simp [h])]
theorem fxE_no {n : Int} {es : List GL} {ts : List Int} (h : fxR n es ts = false) : fxE n es ts = [] := by unfold fxE; rw [if_neg (by simp [h])]
theorem fxE_len (n : Int) (es : List GL) (ts : List Int) : (fxE n es ts).length ≤ 40 := by
  unfold fxE
  split
  · next h => exact (okS_rng (fxR_ok h).2).2.2
  · simp
theorem fxR_pok {n : Int} {es : List GL} {ts : List Int} (h : pokR n es ts = false) : fxR n es ts = false := by unfold fxR; rw [h]; rfl
/-- What FixTimes ends in. -/
def FxEnd (n : Int) (es : List GL) (ts : List Int) (w : World) (x : Ending) (w' : World) : Prop :=
  ∃ B m cb, x = .returned (.tuple #[grV (fxN n es ts) B m cb, .bool (fxR n es ts)]) ∧ m = (fxE n es ts).length ∧ w'.ownsRow w.heap.size 76 4 (.slice B m cb) m (cellsL (fxE n es ts)) ∧ Below w.heap.size w w'
theorem FxEnd.no {n : Int} {es : List GL} {ts : List Int} {w w' : World} (h : fxR n es ts = false) (hb : Below w.heap.size w w') : FxEnd n es ts w (.returned (.tuple #[.agg #[.int .i64 0, .slice none 0 0], .bool false])) w' :=
  ⟨none, 0, 0, by rw [fxN_no h, h]; rfl, by rw [fxE_no h]; rfl, by rw [fxE_no h]; exact World.ownsRow_nil _ _ _ _, hb⟩
def ceR (n : Int) (es : List GL) (ts : List Int) : Bool := fxR n es ts && consR n (es ++ fixL ts)
def ntB (n : Int) (es : List GL) (ts : List Int) (v : Int) : Bool := fxR n es ts && wB n (es ++ fixL ts) v
def ntL (n : Int) (es : List GL) (ts : List Int) (v : Int) : Int := if fxR n es ts then wL n (es ++ fixL ts) v else 0
def ntH (n : Int) (es : List GL) (ts : List Int) (v : Int) : Int := if fxR n es ts then wH n (es ++ fixL ts) v else 0
def ntV (n : Int) (es : List GL) (ts : List Int) (v : Int) : Value := .tuple #[ivV (ntL n es ts v) (ntH n es ts v), .bool (ntB n es ts v)]
theorem ntV_no {n : Int} {es : List GL} {ts : List Int} {v : Int} (h : fxR n es ts = false) : ntV n es ts v = .tuple #[.agg #[.int .i64 0, .int .i64 0], .bool false] := by
  unfold ntV ntL ntH ntB; rw [h]; rfl
theorem ntV_yes {n : Int} {es : List GL} {ts : List Int} {v : Int} (h : fxR n es ts = true) : ntV n es ts v = wV n (es ++ fixL ts) v := by
  unfold ntV ntL ntH ntB; rw [h]; rfl
/-- One event of the completion. -/
def cpStep (n : Int) (es : List GL) (o : List Int) (i : Nat) : Option (List Int) :=
  if o[i]?.getD 0 = -1 then (if ntB n es o i && decide (0 ≤ ntL n es o i) && decide (ntL n es o i ≤ 999999) then some (o.set i (ntL n es o i)) else none) else some o
def cpJ (n : Int) (es : List GL) (ts : List Int) : Nat → Option (List Int)
  | 0 => some ts
  | j + 1 => match cpJ n es ts j with | some o => cpStep n es o j | none => none
def cpR (n : Int) (es : List GL) (ts : List Int) : List Int × Bool :=
  if ceR n es ts then (match cpJ n es ts ts.length with | some o => if fxR n es o then (o, true) else ([], false) | none => ([], false)) else ([], false)
theorem cpStep_len {n : Int} {es : List GL} {o o' : List Int} {i : Nat} (h : cpStep n es o i = some o') : o'.length = o.length := by
  unfold cpStep at h
  split at h
  · split at h
    · injection h with h; rw [← h, List.length_set]
    · cases h
  · injection h with h; rw [h]
theorem cpJ_len {n : Int} {es : List GL} {ts : List Int} : ∀ {j : Nat} {o : List Int}, cpJ n es ts j = some o → o.length = ts.length
  | 0, o, h => by unfold cpJ at h; injection h with h; rw [h]
  | j + 1, o, h => by
    unfold cpJ at h
    split at h
    · next o1 h1 => rw [cpStep_len h, cpJ_len h1]
    · cases h
theorem cpJ_none {n : Int} {es : List GL} {ts : List Int} {j : Nat} (h : cpJ n es ts j = none) : ∀ {m : Nat}, j ≤ m → cpJ n es ts m = none
  | 0, hm => by obtain rfl : j = 0 := by omega
                exact h
  | m + 1, hm => by
    by_cases e : j = m + 1
    · subst e; exact h
    · unfold cpJ; rw [cpJ_none h (show j ≤ m by omega)]
theorem cpR_len (n : Int) (es : List GL) (ts : List Int) : (cpR n es ts).1.length ≤ 8 := by
  unfold cpR
  split
  · next h =>
    split
    · next o ho =>
      split
      · unfold ceR at h
        rw [Bool.and_eq_true] at h
        have h1 := pokR_ok (fxR_ok h.1).1
        have h2 := okS_rng h1.1
        have := cpJ_len ho
        dsimp only
        omega
      · simp
    · simp
  · simp
def cntR (ts : List Int) : Int := ((ts.filter (fun x => decide (x = -1))).length : Nat)
theorem cnt_next {ts : List Int} {j : Nat} {x : Int} (h : ts[j]? = some x) : cntR (ts.take (j + 1)) = cntR (ts.take j) + (if x = -1 then 1 else 0) := by
  unfold cntR
  rw [List.take_add_one, h, List.filter_append]
  by_cases e : x = -1
  · simp [e]
  · simp [e]
theorem cnt_le (ts : List Int) (j : Nat) : 0 ≤ cntR (ts.take j) ∧ cntR (ts.take j) ≤ j := by
  unfold cntR
  have h1 := List.length_filter_le (fun x : Int => decide (x = -1)) (ts.take j)
  rw [List.length_take] at h1
  omega

end Go.Proofs.Yteppmlepbfjnpaa

namespace Go.Proofs.Yteppmlepbfjnpaa
open Go.RowKit
set_option linter.unusedVariables false
set_option linter.unusedSimpArgs false

set_option maxRecDepth 100000 in
set_option maxHeartbeats 8000000 in
theorem spec_PartialOk (n : Int) (es : List GL) (A : Option Addr) (k c : Nat) (ts : List Int) (T : Option Addr) (m d : Nat) (w : World) (hn : es.length = k) (hm : k ≤ 1048576) (hl : ts.length = m) (hr : LinkAt w A es) (ht : RowAt w T (ts.map intV)) :
    Calls Try.prog 26 #[grV n A k c, .slice T m d] w fun e w' => e = .returned (.bool (pokR n es ts)) ∧ Below w.heap.size w w' := by
  have HS := Lib.hid (fun W h => spec_SimpleOk n es A k c W hn hm h)
  have HR := Lib.hid hr
  have HT := Lib.hid ht
  have HL := Lib.hid hl
  clear hr hn ht hl
  obtain ⟨ok, hok⟩ : ∃ b, b = okS n es := ⟨_, rfl⟩
  rw [← hok] at HS
  have HO := Lib.hid hok.symm
  clear hok
  unfold grV at HS ⊢
  cases ok with
  | false =>
    go_enter Try.func26, Try.ntmps26
    go_wp2_with fail
    refine (HS.out _ (HR.out.below (by repeat (first | exact Below.refl _ _ | refine below_step (by assumption) (by first | omega | (simp; done) | (simp; omega)) ?_ | refine below_drewN ?_ _ | refine Below.drew ?_ | refine Below.setCell ?_ (by first | omega | (simp; done) | (simp; omega)) _ | refine Below.alloc ?_ (by first | omega | (simp; done) | (simp; omega)) _)))).mono ?_
    rintro e w1 ⟨rfl, b1⟩
    go_wp2_with fail
    go_ret
    exact ⟨ret_b (by unfold pokR; rw [HO.out]; rfl), (by repeat (first | exact Below.refl _ _ | refine below_step (by assumption) (by first | omega | (simp; done) | (simp; omega)) ?_ | refine below_drewN ?_ _ | refine Below.drew ?_ | refine Below.setCell ?_ (by first | omega | (simp; done) | (simp; omega)) _ | refine Below.alloc ?_ (by first | omega | (simp; done) | (simp; omega)) _))⟩
  | true =>
    by_cases hmn : (m : Int) = n
    · have hne : ((m : Int) != n) = false := by simp [hmn]
      have hm8 : m ≤ 8 := by have := okS_rng HO.out; omega
      have hm0 : 0 < m := by have := okS_rng HO.out; omega
      go_enter Try.func26, Try.ntmps26
      go_wp2_with fail
      refine (HS.out _ (HR.out.below (by repeat (first | exact Below.refl _ _ | refine below_step (by assumption) (by first | omega | (simp; done) | (simp; omega)) ?_ | refine below_drewN ?_ _ | refine Below.drew ?_ | refine Below.setCell ?_ (by first | omega | (simp; done) | (simp; omega)) _ | refine Below.alloc ?_ (by first | omega | (simp; done) | (simp; omega)) _)))).mono ?_
      rintro e w1 ⟨rfl, b1⟩
      have c0_w1 : w1.cell? ⟨w.heap.size, 0, none⟩ = some (.int .i64 n) := (b1.cell (p := ⟨w.heap.size, 0, none⟩) (by first | omega | (simp; done) | (simp; omega))).trans (by first | assumption | go_simp)
      have c1_w1 : w1.cell? ⟨w.heap.size, 1, none⟩ = some (.slice A k c) := (b1.cell (p := ⟨w.heap.size, 1, none⟩) (by first | omega | (simp; done) | (simp; omega))).trans (by first | assumption | go_simp)
      have s0_w1 : w.heap.size < w1.heap.size := Nat.lt_of_lt_of_le (by first | omega | (simp; done) | (simp; omega)) b1.size
      have B1 : Below w.heap.size w w1 := (by repeat (first | exact Below.refl _ _ | refine below_step (by assumption) (by first | omega | (simp; done) | (simp; omega)) ?_ | refine below_drewN ?_ _ | refine Below.drew ?_ | refine Below.setCell ?_ (by first | omega | (simp; done) | (simp; omega)) _ | refine Below.alloc ?_ (by first | omega | (simp; done) | (simp; omega)) _))
      have HT1 := Lib.hid (HT.out.below B1)
      obtain ⟨g, o, rfl, hg, hc⟩ := row_get HT1.out (q := 0) (by have := HL.out; omega)
      rw [Nat.add_zero] at hc
      obtain ⟨x, hx⟩ : ∃ x, x = ts[0]'(by have := HL.out; omega) := ⟨_, rfl⟩
      rw [← hx] at hc
      have HX := Lib.hid (show ts[0]?.getD 0 = x from by rw [hx, List.getElem?_eq_getElem (by have := HL.out; omega)]; rfl)
      clear b1 hx
      by_cases hx0 : x = 0
      · have hxb : (x != 0) = false := by simp [hx0]
        have HX0 := Lib.hid (show ts[0]?.getD 0 = 0 from HX.out.trans hx0)
        clear hx0
        go_wp2_with fail
        go_loopw [25] (fun i wr => ∃ j : Nat, j ≤ m ∧ i = .int .i64 j ∧ (ts.take j).all inP = true ∧ wr = w1) (fun i _ => m - (intOf i).toNat)
        case atStart => exact ⟨0, Nat.zero_le _, rfl, rfl, rfl⟩
        case round =>
          obtain ⟨j, hj, rfl, hall, rfl⟩ := hrel
          have HA := Lib.hid hall
          clear hall
          by_cases hlt : j < m
          · obtain ⟨g2, o2, hT2, hg2, hc2⟩ := row_get HT1.out (q := j) (by have := HL.out; omega)
            injection hT2 with hT2
            injection hT2 with h4 h5
            subst h4 h5
            have HK1 := Lib.hid (allP_take_of ts j (by have := HL.out; omega) HA.out)
            have HK2 := Lib.hid (pokR_not (n := n) (es := es) (ts := ts) (k := j) (by have := HL.out; omega))
            obtain ⟨y, hy⟩ : ∃ y, y = ts[j]'(by have := HL.out; omega) := ⟨_, rfl⟩
            rw [← hy] at hc2 HK1 HK2
            have h0 := l01In_any y (-1) 999999
            have hb : inP y = (decide (-1 ≤ y) && decide (y ≤ 999999)) := rfl
            obtain ⟨b, hbb⟩ : ∃ b, b = inP y := ⟨_, rfl⟩
            rw [← hbb] at HK1 HK2
            rw [← hb, ← hbb] at h0
            have H0 := Lib.hid h0
            clear h0 hb hbb hy
            go_wp2_with fail
            refine (H0.out _).mono ?_
            rintro e w2 ⟨rfl, rfl⟩
            cases b with
            | false =>
              go_wp2_with fail
              go_ret
              exact ⟨ret_b (HK2.out (by simp)).symm, B1⟩
            | true =>
              go_wp2_with fail
              go_roundw
              case rel => exact ⟨j + 1, by omega, by go_num, HK1.out (by simp), by first | rfl | trivial⟩
              case measure => simp [intOf]; omega
          · go_wp2_with fail
            go_ret
            have hl := HL.out
            exact ⟨ret_b (pokR_yes HO.out (by omega) HX0.out (by have := HA.out; rw [show j = ts.length from by omega] at this; exact this)).symm, B1⟩
      · have hxb : (x != 0) = true := by simp [hx0]
        have HX0 := Lib.hid hx0
        clear hx0
        go_wp2_with fail
        go_ret
        exact ⟨ret_b (by unfold pokR; rw [HO.out, HX.out, decide_eq_false HX0.out, Bool.and_false]; rfl), B1⟩
    · have hne : ((m : Int) != n) = true := by simp [hmn]
      go_enter Try.func26, Try.ntmps26
      go_wp2_with fail
      refine (HS.out _ (HR.out.below (by repeat (first | exact Below.refl _ _ | refine below_step (by assumption) (by first | omega | (simp; done) | (simp; omega)) ?_ | refine below_drewN ?_ _ | refine Below.drew ?_ | refine Below.setCell ?_ (by first | omega | (simp; done) | (simp; omega)) _ | refine Below.alloc ?_ (by first | omega | (simp; done) | (simp; omega)) _)))).mono ?_
      rintro e w1 ⟨rfl, b1⟩
      have c0_w1 : w1.cell? ⟨w.heap.size, 0, none⟩ = some (.int .i64 n) := (b1.cell (p := ⟨w.heap.size, 0, none⟩) (by first | omega | (simp; done) | (simp; omega))).trans (by first | assumption | go_simp)
      have c1_w1 : w1.cell? ⟨w.heap.size, 1, none⟩ = some (.slice A k c) := (b1.cell (p := ⟨w.heap.size, 1, none⟩) (by first | omega | (simp; done) | (simp; omega))).trans (by first | assumption | go_simp)
      have s0_w1 : w.heap.size < w1.heap.size := Nat.lt_of_lt_of_le (by first | omega | (simp; done) | (simp; omega)) b1.size
      go_wp2_with fail
      go_ret
      exact ⟨ret_b (by have := HL.out; unfold pokR; rw [HO.out, decide_eq_false (show ¬ ((ts.length : Int) = n) by omega)]; rfl), (by repeat (first | exact Below.refl _ _ | refine below_step (by assumption) (by first | omega | (simp; done) | (simp; omega)) ?_ | refine below_drewN ?_ _ | refine Below.drew ?_ | refine Below.setCell ?_ (by first | omega | (simp; done) | (simp; omega)) _ | refine Below.alloc ?_ (by first | omega | (simp; done) | (simp; omega)) _))⟩

set_option maxRecDepth 100000 in
set_option maxHeartbeats 4000000 in
theorem spec_CountOpen (ts : List Int) (T : Option Addr) (m d : Nat) (w : World) (hl : ts.length = m) (hml : m ≤ 1048576) (ht : RowAt w T (ts.map intV)) :
    Calls Try.prog 40 #[.slice T m d] w fun e w' => e = .returned (.int .i64 (cntR ts)) ∧ Below w.heap.size w w' := by
  have HT := Lib.hid ht
  have HL := Lib.hid hl
  clear ht hl
  go_enter Try.func40, Try.ntmps40
  go_wp2_with fail
  go_loopw [8, 3] (fun i q wr => ∃ (j : Nat) (z : Int), j ≤ m ∧ i = .int .i64 j ∧ q = .int .i64 z ∧ z = cntR (ts.take j) ∧ wr = w) (fun i _ _ => m - (intOf i).toNat)
  case atStart => exact ⟨0, 0, Nat.zero_le _, rfl, rfl, rfl, rfl⟩
  case round =>
    obtain ⟨j, z, hj, rfl, rfl, hz, hw⟩ := hrel
    obtain rfl : w = wr := hw.symm
    have hzr := cnt_le ts j
    rw [← hz] at hzr
    have HZ := Lib.hid hz
    clear hz hw
    by_cases hlt : j < m
    · obtain ⟨g, o, rfl, hg, hc⟩ := row_get HT.out (q := j) (by have := HL.out; omega)
      have hnx := cnt_next (ts := ts) (j := j) (List.getElem?_eq_getElem (by have := HL.out; omega))
      obtain ⟨y, hy⟩ : ∃ y, y = ts[j]'(by have := HL.out; omega) := ⟨_, rfl⟩
      rw [← hy] at hc hnx
      have HX := Lib.hid hnx
      clear hnx hy
      by_cases hy1 : y = -1
      · have hyb : (y == -1) = true := by simp [hy1]
        have HY := Lib.hid hy1
        clear hy1
        go_wp2_with fail
        go_roundw
        case rel => exact ⟨j + 1, z + 1, by omega, by go_num, by first | rfl | (simp; done) | (congr 1; omega), by rw [HX.out, if_pos HY.out, HZ.out], by first | rfl | trivial⟩
        case measure => simp [intOf]; omega
      · have hyb : (y == -1) = false := by simp [hy1]
        have HY := Lib.hid hy1
        clear hy1
        go_wp2_with fail
        go_roundw
        case rel => exact ⟨j + 1, z, by omega, by go_num, by first | rfl | trivial, by rw [HX.out, if_neg HY.out, HZ.out, Int.add_zero], by first | rfl | trivial⟩
        case measure => simp [intOf]; omega
    · go_wp2_with fail
      go_ret
      exact ⟨int_ans (by rw [HZ.out, List.take_of_length_le (by have := HL.out; omega)]), Below.refl _ _⟩

end Go.Proofs.Yteppmlepbfjnpaa
