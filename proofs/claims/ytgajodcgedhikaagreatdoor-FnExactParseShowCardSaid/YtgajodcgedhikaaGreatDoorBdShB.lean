/-
  PLAIN: what makes a show valid; its watchers, its free ties, its chosen nodes; equal shows.
  WALKS of eqGraph, hasNode, spec.GraphOk and impl.GraphOk: a graph that is one.
  WALKS of spec.l07Prop, spec.LabelOk, spec.ValuesOk, spec.CountValues, spec.l07Has, spec.ImpliesLabel.
  WALKS of spec.NodeOk, l08Same, l08Watcher, NodeNamed, l08Free.
  A REGION THAT DRAWS ITS ORDER, WHOSE OPERATIONS YIELD ONE VALUE IN EVERY WORLD OF A CLASS AND LEAVE A WORLD OF THE CLASS: one lexical walk, at any class.
-/
import Derived.Test.YtgajodcgedhikaaGreatDoorBdShO
import Derived.Test.YtgajodcgedhikaaGreatDoorBdIvOk
import Derived.Test.YtgajodcgedhikaaGreatDoorBdDig
import Derived.Test.YtgajodcgedhikaaGreatDoorProg
import Derived.Deep.QuietTactic
import Derived.BigQuiet
namespace Go.Proofs.YtgajodcgedhikaaGreatDoor
open Go.RowKit
set_option linter.unusedVariables false
set_option linter.unusedSimpArgs false

/-- The index of the first element that f holds of, or -1. -/
def firJ {T : Type} (f : T → Bool) : List T → Nat → Int
  | [], _ => -1
  | x :: l, i => if f x then (i : Int) else firJ f l (i + 1)
def fir {T : Type} (f : T → Bool) (l : List T) : Int := firJ f l 0
theorem firJ_all {T : Type} {f : T → Bool} : ∀ {l : List T} {i : Nat}, (∀ x ∈ l, f x = false) → firJ f l i = -1
  | [], _, _ => rfl
  | x :: l, i, h => by
    unfold firJ
    rw [if_neg (by rw [h x (List.mem_cons_self ..)]; simp)]
    exact firJ_all (fun y hy => h y (List.mem_cons_of_mem _ hy))
theorem firJ_at {T : Type} {f : T → Bool} : ∀ {l : List T} {i j : Nat} (hj : j < l.length), (∀ q (hq : q < j), f (l[q]'(by omega)) = false) → f l[j] = true → firJ f l i = ((i + j : Nat) : Int)
  | [], _, j, hj, _, _ => by simp at hj
  | x :: l, i, 0, hj, _, h => by
    unfold firJ
    have : f x = true := h
    rw [if_pos this]; rfl
  | x :: l, i, j + 1, hj, h0, h => by
    have hx : f x = false := h0 0 (by omega)
    unfold firJ
    rw [if_neg (by rw [hx]; simp), firJ_at (l := l) (i := i + 1) (j := j) (by simpa using hj) (fun q hq => h0 (q + 1) (by omega)) h]
    congr 1; omega
theorem firJ_rng {T : Type} {f : T → Bool} : ∀ {l : List T} {i : Nat}, firJ f l i = -1 ∨ ∃ j, ∃ hj : j < l.length, firJ f l i = ((i + j : Nat) : Int) ∧ f l[j] = true
  | [], _ => .inl rfl
  | x :: l, i => by
    unfold firJ
    by_cases hx : f x = true
    · rw [if_pos hx]; exact .inr ⟨0, by simp, rfl, hx⟩
    · rw [if_neg hx]
      rcases firJ_rng (f := f) (l := l) (i := i + 1) with h | ⟨j, hj, h, h2⟩
      · exact .inl h
      · exact .inr ⟨j + 1, by simpa using hj, by rw [h]; congr 1; omega, h2⟩
theorem fir_all {T : Type} {f : T → Bool} {l : List T} {j : Nat} (h : ∀ q (hq : q < j) (hl : q < l.length), f l[q] = false) (hj : l.length ≤ j) : fir f l = -1 :=
  firJ_all fun x hx => by
    obtain ⟨q, hq, rfl⟩ := List.getElem_of_mem hx
    exact h q (by omega) hq
theorem fir_at {T : Type} {f : T → Bool} {l : List T} {j : Nat} (hj : j < l.length) (h : ∀ q (hq : q < j) (hl : q < l.length), f l[q] = false) (hf : f l[j] = true) : fir f l = (j : Int) := by
  have := firJ_at (i := 0) hj (fun q hq => h q hq (by omega)) hf
  unfold fir; rw [this, Nat.zero_add]
theorem fir_rng {T : Type} (f : T → Bool) (l : List T) : fir f l = -1 ∨ ∃ j, ∃ hj : j < l.length, fir f l = (j : Int) ∧ f l[j] = true := by
  rcases firJ_rng (f := f) (l := l) (i := 0) with h | ⟨j, hj, h, h2⟩
  · exact .inl h
  · exact .inr ⟨j, hj, by unfold fir; rw [h, Nat.zero_add], h2⟩
/-- A list whose elements hold, up to an index. -/
def allJ (f : Nat → Bool) : Nat → Bool
  | 0 => true
  | j + 1 => allJ f j && f j
theorem allJ_no {f : Nat → Bool} {j : Nat} (h : allJ f j = false) : ∀ {m : Nat}, j ≤ m → allJ f m = false
  | 0, hm => by obtain rfl : j = 0 := by omega
                exact h
  | m + 1, hm => by
    by_cases e : j = m + 1
    · subst e; exact h
    · unfold allJ; rw [allJ_no h (show j ≤ m by omega), Bool.false_and]
theorem allJ_next {f : Nat → Bool} {j : Nat} : allJ f (j + 1) = (allJ f j && f j) := rfl
theorem allJ_of {f : Nat → Bool} : ∀ {m j : Nat}, allJ f m = true → j < m → f j = true
  | 0, j, _, h => by omega
  | m + 1, j, h, hj => by
    unfold allJ at h
    rw [Bool.and_eq_true] at h
    by_cases e : j = m
    · subst e; exact h.2
    · exact allJ_of h.1 (by omega)

def gT0 : GT := ⟨0, 0, 0, 0, false⟩
def nodB (e : GN) : Bool := nameB e.name.data.toList && (labR e.lab && (decide (0 ≤ e.wat) && decide (e.wat ≤ 3)))
def watR (ns : List GN) (p : Int) : Int := fir (fun e => decide (e.wat = p)) ns
def namR (ns : List GN) (s : ByteArray) : Int := fir (fun e => decide (e.name = s)) ns
def freR (ts : List GT) (v : Int) : Int := fir (fun t => t.fr && decide (t.v = v)) ts
def ndA (ns : List GN) (i : Nat) : Bool := nodB (ns[i]?.getD gN0) && (decide (namR ns (ns[i]?.getD gN0).name = i) && (decide ((ns[i]?.getD gN0).wat = 0) || decide (watR ns (ns[i]?.getD gN0).wat = i)))
/-- A literal of a label, as the node that watches its proposition asks. -/
def ndX (ns : List GN) (l : List Int) (x : Int) : Bool :=
  decide (0 ≤ watR ns (absI x)) && (!hasR (ns[(watR ns (absI x)).toNat]?.getD gN0).lab x && (!hasR (ns[(watR ns (absI x)).toNat]?.getD gN0).lab (-x) && impR l (ns[(watR ns (absI x)).toNat]?.getD gN0).lab))
def ndB (ns : List GN) (i : Nat) : Bool := allJ (fun q => ndX ns (ns[i]?.getD gN0).lab ((ns[i]?.getD gN0).lab[q]?.getD 0)) (ns[i]?.getD gN0).lab.length
def ndH (ns : List GN) : Bool := decide (1 ≤ ns.length ∧ ns.length ≤ 7) && (decide ((ns[0]?.getD gN0).lab.length = 0) && decide ((ns[0]?.getD gN0).wat = 0))
def ndsR (ns : List GN) : Bool := ndH ns && (allJ (ndA ns) ns.length && allJ (ndB ns) ns.length)
def tiB (ns : List GN) (ts : List GT) (i : Nat) : Bool :=
  let t := ts[i]?.getD gT0
  (decide (0 ≤ t.u) && decide (t.u ≤ (ns.length : Int) - 1)) && ((decide (0 ≤ t.v) && decide (t.v ≤ (ns.length : Int) - 1)) && (decide (t.u ≠ t.v) && (decide (-20 ≤ t.lo) && (decide (t.hi ≤ 20) && (decide (t.lo ≤ t.hi) &&
    (!t.fr || (decide (1 ≤ t.lo) && (decide (t.v ≠ 0) && (decide ((ns[t.v.toNat]?.getD gN0).wat = 0) && (decide ((ns[t.u.toNat]?.getD gN0).lab = (ns[t.v.toNat]?.getD gN0).lab) && decide (freR ts t.v = i)))))))))))
def shR (s : GS) : Bool := ndsR s.ns && (decide (s.ts.length ≤ 14) && ((decide (1 ≤ s.h) && decide (s.h ≤ 10)) && allJ (tiB s.ns s.ts) s.ts.length))
def frR (s : GS) (v : Int) : Int := if shR s then freR s.ts v else -1
def woR8 (s : GS) (p : Int) : Int := if (decide (1 ≤ p) && decide (p ≤ 3)) && shR s then watR s.ns p else -1
def chJ (s : GS) : Nat → List Int
  | 0 => []
  | j + 1 => chJ s j ++ (if 0 < j ∧ freR s.ts j < 0 then [(j : Int)] else [])
def chR (s : GS) : List Int := if shR s then chJ s s.ns.length else []
theorem chJ_len (s : GS) : ∀ j, (chJ s j).length ≤ j
  | 0 => by simp [chJ]
  | j + 1 => by
    have := chJ_len s j
    unfold chJ
    rw [List.length_append]
    split <;> simp <;> omega
def nodE (a b : GN) : Bool := decide (a.name = b.name) && (decide (a.wat = b.wat) && decide (a.lab = b.lab))
def tieE (a b : GT) : Bool := decide (a.u = b.u) && (decide (a.v = b.v) && (decide (a.lo = b.lo) && (decide (a.hi = b.hi) && decide (a.fr = b.fr))))
def smR (a b : GS) : Bool := decide (a.ns.length = b.ns.length ∧ a.ts.length = b.ts.length ∧ a.h = b.h) && (allJ (fun i => nodE (a.ns[i]?.getD gN0) (b.ns[i]?.getD gN0)) a.ns.length && allJ (fun i => tieE (a.ts[i]?.getD gT0) (b.ts[i]?.getD gT0)) a.ts.length)
theorem shR_rng {s : GS} (h : shR s = true) : 1 ≤ s.ns.length ∧ s.ns.length ≤ 7 ∧ s.ts.length ≤ 14 ∧ 1 ≤ s.h ∧ s.h ≤ 10 := by
  unfold shR ndsR ndH at h
  simp only [Bool.and_eq_true, decide_eq_true_eq] at h
  omega

end Go.Proofs.YtgajodcgedhikaaGreatDoor

namespace Go.Proofs.YtgajodcgedhikaaGreatDoor
open Go.RowKit
set_option linter.unusedVariables false
set_option linter.unusedSimpArgs false

def okE (n : Int) (e : GE) : Bool := decide (0 ≤ e.u ∧ e.u < n) && decide (0 ≤ e.v ∧ e.v < n) && decide (-1000000 < e.c ∧ e.c < 1000000)
def okG (n : Int) (es : List GE) : Bool := decide (0 ≤ n ∧ n ≤ 8 ∧ es.length ≤ 80) && es.all (okE n)

theorem all_take_of (es : List GE) (p : GE → Bool) (k : Nat) (h : k < es.length) (ha : (es.take k).all p = true) (hp : p es[k] = true) : (es.take (k + 1)).all p = true := by
  rw [List.take_add_one, List.getElem?_eq_getElem h, List.all_append, ha]; simpa using hp
theorem all_not_of (es : List GE) (p : GE → Bool) (k : Nat) (h : k < es.length) (hp : p es[k] = false) : es.all p = false := by
  rw [List.all_eq_false]; exact ⟨es[k], List.getElem_mem _, by simp [hp]⟩
theorem okG_not (n : Int) (es : List GE) (k : Nat) (h : k < es.length) (hp : okE n es[k] = false) : okG n es = false := by
  unfold okG; rw [all_not_of es _ k h hp, Bool.and_false]
theorem okG_big (n : Int) (es : List GE) (h : ¬ (0 ≤ n ∧ n ≤ 8 ∧ es.length ≤ 80)) : okG n es = false := by
  unfold okG; rw [decide_eq_false h, Bool.false_and]
theorem okG_all (n : Int) (es : List GE) (h : 0 ≤ n ∧ n ≤ 8 ∧ es.length ≤ 80) (ha : (es.take es.length).all (okE n) = true) : okG n es = true := by
  rw [List.take_of_length_le (Nat.le_refl _)] at ha
  unfold okG; rw [decide_eq_true h, ha]; rfl
theorem ret_b {a b : Bool} (h : a = b) : Ending.returned (.bool a) = .returned (.bool b) := by rw [h]

end Go.Proofs.YtgajodcgedhikaaGreatDoor

namespace Go.Proofs.YtgajodcgedhikaaGreatDoor
open Go.RowKit
set_option linter.unusedVariables false
set_option linter.unusedSimpArgs false

theorem row_getB {w : World} {A : Option Addr} {zs : List Int} (h : RowAt w A (zs.map intV)) {q : Nat} (hq : q < zs.length) : ∃ g o, A = some ⟨g, o, none⟩ ∧ g < w.heap.size ∧ w.cell? ⟨g, o + q, none⟩ = some (.int .i64 zs[q]) := by
  obtain ⟨g, o, hA, hg, hc⟩ := h (by simp; omega)
  refine ⟨g, o, hA, hg, ?_⟩
  have := hc q (by simp; omega)
  simpa [intV] using this
set_option maxRecDepth 100000 in
set_option maxHeartbeats 4000000 in
theorem prop_any (x : Int) (h : -3 ≤ x ∧ x ≤ 3) (w : World) : Calls Tryz.prog 52 #[.int .i64 x] w fun e w' => e = .returned (.int .i64 (absI x)) ∧ w = w' := by
  by_cases h0 : x < 0
  · go_enter Tryz.func52, Tryz.ntmps52
    go_wp2
    go_ret
    exact ⟨int_ans (by unfold absI; rw [if_pos (by omega)]), rfl⟩
  · go_enter Tryz.func52, Tryz.ntmps52
    go_wp2
    go_ret
    exact ⟨int_ans (by unfold absI; rw [if_neg (by omega)]), rfl⟩

set_option maxRecDepth 100000 in
set_option maxHeartbeats 4000000 in
theorem spec_LabelOk (l : List Int) (A : Option Addr) (k c : Nat) (w : World) (hl : l.length = k) (hm : k ≤ 1048576) (hr : RowAt w A (l.map intV)) : Calls Tryz.prog 49 #[.slice A k c] w fun e w' => e = .returned (.bool (labR l)) ∧ w = w' := by
  have HR := Lib.hid hr
  have HL := Lib.hid hl
  clear hr hl
  go_enter Tryz.func49, Tryz.ntmps49
  go_wp2_with fail
  go_loopw [7] (fun i wr => ∃ j : Nat, j ≤ k ∧ i = .int .i64 j ∧ labJ l j = true ∧ wr = w) (fun i _ => k - (intOf i).toNat)
  case atStart => exact ⟨0, Nat.zero_le _, rfl, rfl, rfl⟩
  case round =>
    obtain ⟨j, hj, rfl, hall, hw⟩ := hrel
    obtain rfl : w = wr := hw.symm
    have HA := Lib.hid hall
    clear hall hw
    by_cases hlt : j < k
    · have hjl : ((j : Int) < (k : Int)) := by omega
      obtain ⟨g, o, rfl, hg, hc⟩ := row_getB HR.out (q := j) (by have := HL.out; omega)
      obtain ⟨x, hx⟩ : ∃ x, x = l[j]'(by have := HL.out; omega) := ⟨_, rfl⟩
      have hxd : l[j]?.getD 0 = x := by rw [hx, List.getElem?_eq_getElem (by have := HL.out; omega)]; rfl
      rw [← hx] at hc
      have HXD := Lib.hid hxd
      have HNO := Lib.hid (fun (h : labS l j x = false) => show labR l = false from by unfold labR; exact labJ_no (j := j + 1) (by rw [labJ_next, hxd, h, Bool.and_false]) (by have := HL.out; omega))
      have HYES := Lib.hid (fun (h : labS l j x = true) => show labJ l (j + 1) = true from by rw [labJ_next, hxd, h, HA.out]; rfl)
      clear hx hxd
      have h0 := l01In_any x (-3) 3
      obtain ⟨bi, hbi⟩ : ∃ b, b = (decide (-3 ≤ x) && decide (x ≤ 3)) := ⟨_, rfl⟩
      rw [← hbi] at h0
      have H0 := Lib.hid h0
      have HBI := Lib.hid hbi
      clear h0 hbi
      by_cases hx0 : x = 0
      · have hxb : (x == 0) = true := by simp [hx0]
        have HV := Lib.hid (HNO.out (by unfold labS litB; rw [decide_eq_false (by omega)]; rfl))
        clear hx0
        go_wp2_with fail
        go_ret
        exact ⟨ret_b HV.out.symm, rfl⟩
      · have hxb : (x == 0) = false := by simp [hx0]
        have HX0 := Lib.hid hx0
        clear hx0
        cases bi with
        | false =>
          have HV := Lib.hid (HNO.out (by unfold labS litB; rw [← HBI.out, Bool.and_false, Bool.false_and]))
          go_wp2_with fail
          refine (H0.out _).mono ?_
          rintro e w2 ⟨rfl, rfl⟩
          go_wp2_with fail
          go_ret
          exact ⟨ret_b HV.out.symm, rfl⟩
        | true =>
          have hlit : litB x = true := by unfold litB; rw [← HBI.out, decide_eq_true HX0.out]; rfl
          have hx3 : -3 ≤ x ∧ x ≤ 3 := by have := litB_of hlit; omega
          have HLT := Lib.hid hlit
          clear hlit
          by_cases hj0 : j = 0
          · have hjn : ¬ ((0 : Int) < (j : Int)) := by omega
            have HV := Lib.hid (HYES.out (by unfold labS; rw [HLT.out, decide_eq_true hj0]; rfl))
            clear hj0
            go_wp2_with fail
            refine (H0.out _).mono ?_
            rintro e w2 ⟨rfl, rfl⟩
            go_wp2_with fail
            go_roundw
            case rel => exact ⟨j + 1, by omega, by go_num, HV.out, by first | rfl | trivial⟩
            case measure => simp [intOf]; omega
          · have hjn : ((0 : Int) < (j : Int)) := by omega
            obtain ⟨q, hq⟩ : ∃ q : Nat, j = q + 1 := ⟨j - 1, by omega⟩
            have hjq : (j : Int) - 1 = (q : Int) := by omega
            have iq0 : (0 : Int) ≤ (q : Int) := by omega
            have iq1 : (q : Int) < (k : Int) := by omega
            obtain ⟨g2, o2, hT2, hg2, hc2⟩ := row_getB HR.out (q := q) (by have := HL.out; omega)
            injection hT2 with hT2
            injection hT2 with h4 h5
            subst h4 h5
            obtain ⟨y, hy⟩ : ∃ y, y = l[q]'(by have := HL.out; omega) := ⟨_, rfl⟩
            have hyd : l[j - 1]?.getD 0 = y := by rw [hy, show j - 1 = q by omega, List.getElem?_eq_getElem (by have := HL.out; omega)]; rfl
            rw [← hy] at hc2
            have hly : litB y = true := by rw [← hyd]; exact labJ_lit HA.out (by omega)
            have hy3 : -3 ≤ y ∧ y ≤ 3 := by have := litB_of hly; omega
            have ha : labS l j x = decide (absI y < absI x) := by unfold labS; rw [HLT.out, hyd, decide_eq_false hj0]; rfl
            have hpy := prop_any y hy3
            have hpx := prop_any x hx3
            obtain ⟨p, hp⟩ : ∃ p, p = absI y := ⟨_, rfl⟩
            obtain ⟨r, hr⟩ : ∃ r, r = absI x := ⟨_, rfl⟩
            rw [← hp] at hpy ha
            rw [← hr] at hpx ha
            have HPY := Lib.hid hpy
            have HPX := Lib.hid hpx
            have HAS := Lib.hid ha
            clear hy hyd hly ha hpy hpx hp hr hq hj0
            by_cases hpr : p < r
            · have hge : ¬ (r ≤ p) := by omega
              have HV := Lib.hid (HYES.out (by rw [HAS.out]; exact decide_eq_true hpr))
              go_wp2_with fail
              refine (H0.out _).mono ?_
              rintro e w2 ⟨rfl, rfl⟩
              go_wp2_with fail
              refine (HPY.out _).mono ?_
              rintro e w3 ⟨rfl, rfl⟩
              go_wp2_with fail
              refine (HPX.out _).mono ?_
              rintro e w4 ⟨rfl, rfl⟩
              go_wp2_with fail
              go_roundw
              case rel => exact ⟨j + 1, by omega, by go_num, HV.out, by first | rfl | trivial⟩
              case measure => simp [intOf]; omega
            · have hge : r ≤ p := by omega
              have HV := Lib.hid (HNO.out (by rw [HAS.out]; exact decide_eq_false hpr))
              go_wp2_with fail
              refine (H0.out _).mono ?_
              rintro e w2 ⟨rfl, rfl⟩
              go_wp2_with fail
              refine (HPY.out _).mono ?_
              rintro e w3 ⟨rfl, rfl⟩
              go_wp2_with fail
              refine (HPX.out _).mono ?_
              rintro e w4 ⟨rfl, rfl⟩
              go_wp2_with fail
              go_ret
              exact ⟨ret_b HV.out.symm, rfl⟩
    · have hjl : ¬ ((j : Int) < (k : Int)) := by omega
      go_wp2_with fail
      go_ret
      exact ⟨ret_b (by unfold labR; have := HA.out; rw [show j = l.length from by have := HL.out; omega] at this; exact this.symm), rfl⟩

set_option maxRecDepth 100000 in
set_option maxHeartbeats 4000000 in
theorem has_any (n : Int) (l : List Int) (A : Option Addr) (k c : Nat) (w : World) (hl : l.length = k) (hm : k ≤ 1048576) (hr : RowAt w A (l.map intV)) : Calls Tryz.prog 53 #[.slice A k c, .int .i64 n] w fun e w' => e = .returned (.bool (hasR l n)) ∧ w = w' := by
  have HR := Lib.hid hr
  have HL := Lib.hid hl
  clear hr hl
  go_enter Tryz.func53, Tryz.ntmps53
  go_wp2_with fail
  go_loopw [9] (fun i wr => ∃ j : Nat, j ≤ k ∧ i = .int .i64 j ∧ (l.take j).any (fun x => decide (x = n)) = false ∧ wr = w) (fun i _ => k - (intOf i).toNat)
  case atStart => exact ⟨0, Nat.zero_le _, rfl, rfl, rfl⟩
  case round =>
    obtain ⟨j, hj, rfl, hall, hw⟩ := hrel
    obtain rfl : w = wr := hw.symm
    have HA := Lib.hid hall
    clear hall hw
    by_cases hlt : j < k
    · have hjl : ((j : Int) < (k : Int)) := by omega
      obtain ⟨g, o, rfl, hg, hc⟩ := row_getB HR.out (q := j) (by have := HL.out; omega)
      have HK1 := Lib.hid (anyH_take (l := l) (n := n) (j := j) (by have := HL.out; omega) HA.out)
      have HK2 := Lib.hid (hasR_at (l := l) (n := n) (j := j) (by have := HL.out; omega))
      obtain ⟨x, hx⟩ : ∃ x, x = l[j]'(by have := HL.out; omega) := ⟨_, rfl⟩
      rw [← hx] at hc HK1 HK2
      clear hx
      by_cases hxn : x = n
      · have hxb : (x == n) = true := by simp [hxn]
        have HV := Lib.hid (HK2.out hxn)
        clear hxn
        go_wp2_with fail
        go_ret
        exact ⟨ret_b HV.out.symm, rfl⟩
      · have hxb : (x == n) = false := by simp [hxn]
        have HV := Lib.hid (HK1.out hxn)
        clear hxn
        go_wp2_with fail
        go_roundw
        case rel => exact ⟨j + 1, by omega, by go_num, HV.out, by first | rfl | trivial⟩
        case measure => simp [intOf]; omega
    · have hjl : ¬ ((j : Int) < (k : Int)) := by omega
      go_wp2_with fail
      go_ret
      exact ⟨ret_b (hasR_none (by have := HA.out; rw [show j = l.length from by have := HL.out; omega] at this; exact this)).symm, rfl⟩

set_option maxRecDepth 100000 in
set_option maxHeartbeats 4000000 in
theorem spec_ImpliesLabel (a b : List Int) (A : Option Addr) (k c : Nat) (B : Option Addr) (m d : Nat) (w : World) (hl : a.length = k) (hm : k ≤ 1048576) (hlb : b.length = m) (hmb : m ≤ 1048576) (hr : RowAt w A (a.map intV)) (hrb : RowAt w B (b.map intV)) : Calls Tryz.prog 54 #[.slice A k c, .slice B m d] w fun e w' => e = .returned (.bool (impR a b)) ∧ w = w' := by
  have HOA := Lib.hid (spec_LabelOk a A k c w hl hm hr)
  have HOB := Lib.hid (spec_LabelOk b B m d w hlb hmb hrb)
  have HHA := Lib.hid (fun n => has_any n a A k c w hl hm hr)
  have HR := Lib.hid hrb
  have HL := Lib.hid hlb
  clear hr hrb hl hlb
  obtain ⟨b1, hb1⟩ : ∃ x, x = labR a := ⟨_, rfl⟩
  obtain ⟨b2, hb2⟩ : ∃ x, x = labR b := ⟨_, rfl⟩
  rw [← hb1] at HOA
  rw [← hb2] at HOB
  have H1 := Lib.hid hb1.symm
  have H2 := Lib.hid hb2.symm
  clear hb1 hb2
  cases b1 with
  | false =>
    go_enter Tryz.func54, Tryz.ntmps54
    go_wp2_with fail
    refine HOA.out.mono ?_
    rintro e w1 ⟨rfl, rfl⟩
    go_wp2_with fail
    go_ret
    exact ⟨ret_b (by unfold impR; rw [H1.out]; rfl), rfl⟩
  | true =>
    cases b2 with
    | false =>
      go_enter Tryz.func54, Tryz.ntmps54
      go_wp2_with fail
      refine HOA.out.mono ?_
      rintro e w1 ⟨rfl, rfl⟩
      go_wp2_with fail
      refine HOB.out.mono ?_
      rintro e w1 ⟨rfl, rfl⟩
      go_wp2_with fail
      go_ret
      exact ⟨ret_b (by unfold impR; rw [H1.out, H2.out]; rfl), rfl⟩
    | true =>
      go_enter Tryz.func54, Tryz.ntmps54
      go_wp2_with fail
      refine HOA.out.mono ?_
      rintro e w1 ⟨rfl, hw1⟩
      subst hw1
      go_wp2_with fail
      refine HOB.out.mono ?_
      rintro e w1 ⟨rfl, hw1⟩
      subst hw1
      go_wp2_with fail
      go_loopw [17] (fun i wr => ∃ j : Nat, j ≤ m ∧ i = .int .i64 j ∧ (b.take j).all (hasR a) = true ∧ wr = w) (fun i _ => m - (intOf i).toNat)
      case atStart => exact ⟨0, Nat.zero_le _, rfl, rfl, rfl⟩
      case round =>
        obtain ⟨j, hj, rfl, hall, hw⟩ := hrel
        obtain rfl : w = wr := hw.symm
        have HA := Lib.hid hall
        clear hall hw
        by_cases hlt : j < m
        · have hjl : ((j : Int) < (m : Int)) := by omega
          obtain ⟨g, o, rfl, hg, hc⟩ := row_getB HR.out (q := j) (by have := HL.out; omega)
          have HK1 := Lib.hid (allI2_take_of a b j (by have := HL.out; omega) HA.out)
          have HK2 := Lib.hid (impR_not (a := a) (b := b) (k := j) (by have := HL.out; omega))
          obtain ⟨x, hx⟩ : ∃ x, x = b[j]'(by have := HL.out; omega) := ⟨_, rfl⟩
          rw [← hx] at hc HK1 HK2
          have hh := HHA.out x
          obtain ⟨t, ht⟩ : ∃ t, t = hasR a x := ⟨_, rfl⟩
          rw [← ht] at hh HK1 HK2
          have HH := Lib.hid hh
          clear hx ht hh
          cases t with
          | false =>
            go_wp2_with fail
            refine HH.out.mono ?_
            rintro e w1 ⟨rfl, rfl⟩
            go_wp2_with fail
            go_ret
            exact ⟨ret_b (HK2.out (by simp)).symm, rfl⟩
          | true =>
            go_wp2_with fail
            refine HH.out.mono ?_
            rintro e w1 ⟨rfl, hw1⟩
            subst hw1
            go_wp2_with fail
            go_roundw
            case rel => exact ⟨j + 1, by omega, by go_num, HK1.out (by simp), by first | rfl | trivial⟩
            case measure => simp [intOf]; omega
        · have hjl : ¬ ((j : Int) < (m : Int)) := by omega
          go_wp2_with fail
          go_ret
          exact ⟨ret_b (by unfold impR; rw [H1.out, H2.out]; have := HA.out; rw [List.take_of_length_le (by have := HL.out; omega)] at this; rw [this]; rfl), rfl⟩

end Go.Proofs.YtgajodcgedhikaaGreatDoor

namespace Go.Proofs.YtgajodcgedhikaaGreatDoor
open Go.RowKit
set_option linter.unusedVariables false
set_option linter.unusedSimpArgs false

theorem bytes_sameP {a b : ByteArray} (h : a = b) : (a.toList == b.toList) = true := by rw [h]; simp
theorem bytes_otherP {s t : ByteArray} (h : ¬ s = t) : (s.toList == t.toList) = false := by
  simp only [beq_eq_false_iff_ne, ne_eq]
  rw [Lib.toList_data, Lib.toList_data]
  intro e
  exact h (by apply ByteArray.ext; apply Array.toList_inj.1; exact e)
theorem nodB_eq (nm : ByteArray) (lab : List Int) (wat : Int) : nodB ⟨nm, lab, wat⟩ = (nameB nm.data.toList && (labR lab && (decide (0 ≤ wat) && decide (wat ≤ 3)))) := rfl

set_option maxRecDepth 100000 in
set_option maxHeartbeats 4000000 in
theorem spec_NodeOk (e : GN) (L : Option Addr) (c k : Nat) (w : World) (hk : e.lab.length = k) (hm : k ≤ 1048576) (hn : e.name.size ≤ maxLen) (hr : RowAt w L (e.lab.map intV)) :
    Calls Tryz.prog 50 #[.agg #[.string e.name, .slice L k c, .int .i64 e.wat]] w fun x w' => x = .returned (.bool (nodB e)) ∧ Below w.heap.size w w' := by
  obtain ⟨nm, lab, wat⟩ := e
  have HV := Lib.hid (nodB_eq nm lab wat)
  dsimp only at hk hr hn ⊢
  have HNM := Lib.hid (fun W => spec_IsName nm W hn)
  have HLB := Lib.hid (fun W h => spec_LabelOk lab L k c W hk hm h)
  have HIN := Lib.hid (l01In_any wat 0 3)
  have HR := Lib.hid hr
  clear hr hk hn
  obtain ⟨b1, hb1⟩ : ∃ b, b = nameB nm.data.toList := ⟨_, rfl⟩
  obtain ⟨b2, hb2⟩ : ∃ b, b = labR lab := ⟨_, rfl⟩
  obtain ⟨b3, hb3⟩ : ∃ b, b = (decide (0 ≤ wat) && decide (wat ≤ 3)) := ⟨_, rfl⟩
  rw [← hb1] at HNM HV
  rw [← hb2] at HLB HV
  rw [← hb3] at HIN HV
  clear hb1 hb2 hb3
  cases b1 with
  | false =>
    go_enter Tryz.func50, Tryz.ntmps50
    go_wp2_with fail
    refine (HNM.out _).mono ?_
    rintro x w1 ⟨rfl, rfl⟩
    go_wp2_with fail
    go_ret
    exact ⟨ret_b (by rw [HV.out]; rfl), (by repeat (first | exact Below.refl _ _ | refine below_step (by assumption) (by first | omega | (simp; done) | (simp; omega)) ?_ | refine below_drewN ?_ _ | refine Below.drew ?_ | refine Below.setCell ?_ (by first | omega | (simp; done) | (simp; omega)) _ | refine Below.alloc ?_ (by first | omega | (simp; done) | (simp; omega)) _))⟩
  | true =>
    cases b2 with
    | false =>
      go_enter Tryz.func50, Tryz.ntmps50
      go_wp2_with fail
      refine (HNM.out _).mono ?_
      rintro x w1 ⟨rfl, rfl⟩
      go_wp2_with fail
      refine (HLB.out _ (HR.out.below (by repeat (first | exact Below.refl _ _ | refine below_step (by assumption) (by first | omega | (simp; done) | (simp; omega)) ?_ | refine below_drewN ?_ _ | refine Below.drew ?_ | refine Below.setCell ?_ (by first | omega | (simp; done) | (simp; omega)) _ | refine Below.alloc ?_ (by first | omega | (simp; done) | (simp; omega)) _)))).mono ?_
      rintro x w1 ⟨rfl, rfl⟩
      go_wp2_with fail
      go_ret
      exact ⟨ret_b (by rw [HV.out]; rfl), (by repeat (first | exact Below.refl _ _ | refine below_step (by assumption) (by first | omega | (simp; done) | (simp; omega)) ?_ | refine below_drewN ?_ _ | refine Below.drew ?_ | refine Below.setCell ?_ (by first | omega | (simp; done) | (simp; omega)) _ | refine Below.alloc ?_ (by first | omega | (simp; done) | (simp; omega)) _))⟩
    | true =>
      go_enter Tryz.func50, Tryz.ntmps50
      go_wp2_with fail
      refine (HNM.out _).mono ?_
      rintro x w1 ⟨rfl, rfl⟩
      go_wp2_with fail
      refine (HLB.out _ (HR.out.below (by repeat (first | exact Below.refl _ _ | refine below_step (by assumption) (by first | omega | (simp; done) | (simp; omega)) ?_ | refine below_drewN ?_ _ | refine Below.drew ?_ | refine Below.setCell ?_ (by first | omega | (simp; done) | (simp; omega)) _ | refine Below.alloc ?_ (by first | omega | (simp; done) | (simp; omega)) _)))).mono ?_
      rintro x w1 ⟨rfl, rfl⟩
      go_wp2_with fail
      refine (HIN.out _).mono ?_
      rintro x w1 ⟨rfl, rfl⟩
      cases b3 with
      | false =>
        go_wp2_with fail
        go_ret
        exact ⟨ret_b (by rw [HV.out]; rfl), (by repeat (first | exact Below.refl _ _ | refine below_step (by assumption) (by first | omega | (simp; done) | (simp; omega)) ?_ | refine below_drewN ?_ _ | refine Below.drew ?_ | refine Below.setCell ?_ (by first | omega | (simp; done) | (simp; omega)) _ | refine Below.alloc ?_ (by first | omega | (simp; done) | (simp; omega)) _))⟩
      | true =>
        go_wp2_with fail
        go_ret
        exact ⟨ret_b (by rw [HV.out]; rfl), (by repeat (first | exact Below.refl _ _ | refine below_step (by assumption) (by first | omega | (simp; done) | (simp; omega)) ?_ | refine below_drewN ?_ _ | refine Below.drew ?_ | refine Below.setCell ?_ (by first | omega | (simp; done) | (simp; omega)) _ | refine Below.alloc ?_ (by first | omega | (simp; done) | (simp; omega)) _))⟩

set_option maxRecDepth 100000 in
set_option maxHeartbeats 4000000 in
theorem spec_l08Same (a b : List Int) (A : Option Addr) (k c : Nat) (B : Option Addr) (m d : Nat) (w : World) (hl : a.length = k) (hm : k ≤ 1048576) (hlb : b.length = m) (hmb : m ≤ 1048576) (hr : RowAt w A (a.map intV)) (hrb : RowAt w B (b.map intV)) :
    Calls Tryz.prog 55 #[.slice A k c, .slice B m d] w fun e w' => e = .returned (.bool (decide (a = b))) ∧ w = w' := by
  have HA := Lib.hid hr
  have HB := Lib.hid hrb
  have HL := Lib.hid hl
  have HLB := Lib.hid hlb
  clear hr hrb hl hlb
  by_cases hkm : k = m
  · subst hkm
    have hne : ((k : Int) != (k : Int)) = false := by simp
    go_enter Tryz.func55, Tryz.ntmps55
    go_wp2_with fail
    go_loopw [14] (fun i wr => ∃ j : Nat, j ≤ k ∧ i = .int .i64 j ∧ a.take j = b.take j ∧ wr = w) (fun i _ => k - (intOf i).toNat)
    case atStart => exact ⟨0, Nat.zero_le _, rfl, rfl, rfl⟩
    case round =>
      obtain ⟨j, hj, rfl, hall, hw⟩ := hrel
      obtain rfl : w = wr := hw.symm
      have HT := Lib.hid hall
      clear hall hw
      by_cases hlt : j < k
      · have hjk : ((j : Int) < (k : Int)) := by omega
        obtain ⟨g, o, rfl, hg, hc⟩ := row_getB HA.out (q := j) (by have := HL.out; omega)
        obtain ⟨g2, o2, rfl, hg2, hc2⟩ := row_getB HB.out (q := j) (by have := HLB.out; omega)
        obtain ⟨x, hx⟩ : ∃ x, x = a[j]'(by have := HL.out; omega) := ⟨_, rfl⟩
        obtain ⟨y, hy⟩ : ∃ x, x = b[j]'(by have := HLB.out; omega) := ⟨_, rfl⟩
        rw [← hx] at hc
        rw [← hy] at hc2
        have HX := Lib.hid hx
        have HY := Lib.hid hy
        clear hx hy
        by_cases hxy : x = y
        · have hb : (x != y) = false := by simp [hxy]
          have HXY := Lib.hid hxy
          clear hxy
          go_wp2_with fail
          go_roundw
          case rel => exact ⟨j + 1, by omega, by go_num, by rw [List.take_add_one, List.take_add_one, HT.out, List.getElem?_eq_getElem (by have := HL.out; omega), List.getElem?_eq_getElem (by have := HLB.out; omega), ← HX.out, ← HY.out, HXY.out], by first | rfl | trivial⟩
          case measure => simp [intOf]; omega
        · have hb : (x != y) = true := by simp [hxy]
          have HXY := Lib.hid hxy
          clear hxy
          go_wp2_with fail
          go_ret
          exact ⟨ret_b (decide_eq_false (fun e => HXY.out (by rw [HX.out, HY.out]; simp [e]))).symm, rfl⟩
      · have hjk : ¬ ((j : Int) < (k : Int)) := by omega
        go_wp2_with fail
        go_ret
        exact ⟨ret_b (decide_eq_true (by have := HT.out; rwa [List.take_of_length_le (by have := HL.out; omega), List.take_of_length_le (by have := HLB.out; omega)] at this)).symm, rfl⟩
  · have hne : ((k : Int) != (m : Int)) = true := by simp; omega
    go_enter Tryz.func55, Tryz.ntmps55
    go_wp2_with fail
    go_ret
    exact ⟨ret_b (decide_eq_false (fun e => hkm (by rw [← HL.out, ← HLB.out, e]))).symm, rfl⟩

set_option maxRecDepth 100000 in
set_option maxHeartbeats 4000000 in
theorem spec_l08Watcher (s : GS) (x : Int) (A : Option Addr) (k c : Nat) (B : Option Addr) (m d : Nat) (w : World) (hk : k ≤ 1048576) (ha : ShowAt w s A k B m) :
    Calls Tryz.prog 51 #[shV A k c B m d s.h, .int .i64 x] w fun e w' => e = .returned (.int .i64 (watR s.ns x)) ∧ Below w.heap.size w w' := by
  have HA := Lib.hid ha
  clear ha
  obtain ⟨h, hh⟩ : ∃ h, h = s.h := ⟨_, rfl⟩
  rw [← hh]
  clear hh
  unfold shV
  go_enter Tryz.func51, Tryz.ntmps51
  go_wp2_with fail
  go_loopw [10] (fun i wr => ∃ j : Nat, j ≤ k ∧ i = .int .i64 j ∧ (∀ q (hq : q < j) (hl : q < s.ns.length), decide ((s.ns[q]).wat = x) = false) ∧ Below w.heap.size w wr) (fun i _ => k - (intOf i).toNat)
  case atStart => exact ⟨0, Nat.zero_le _, rfl, fun q hq => by omega, (by repeat (first | exact Below.refl _ _ | refine below_step (by assumption) (by first | omega | (simp; done) | (simp; omega)) ?_ | refine below_drewN ?_ _ | refine Below.drew ?_ | refine Below.setCell ?_ (by first | omega | (simp; done) | (simp; omega)) _ | refine Below.alloc ?_ (by first | omega | (simp; done) | (simp; omega)) _))⟩
  case round =>
    obtain ⟨j, hj, rfl, hall, hbw⟩ := hrel
    have HALL := Lib.hid hall
    clear hall
    by_cases hlt : j < k
    · have hjk : ((j : Int) < (k : Int)) := by omega
      have hl := HA.out.ln
      obtain ⟨g, o, rfl, hg, hc⟩ := HA.out.nodes (by omega)
      have hc1 := hc j (by omega)
      obtain ⟨e, he⟩ : ∃ e, e = s.ns[j]'(by omega) := ⟨_, rfl⟩
      rw [← he] at hc1
      obtain ⟨d0, d2, L, cl, d1, _⟩ := hc1
      obtain ⟨q, hq⟩ : ∃ q, q = e.lab.length := ⟨_, rfl⟩
      rw [← hq] at d1
      have k0 := (hbw.cell (p := ⟨g, o + j * 3, none⟩) hg).trans d0
      have k1 := (hbw.cell (p := ⟨g, o + j * 3 + 1, none⟩) hg).trans d1
      have k2 := (hbw.cell (p := ⟨g, o + j * 3 + 2, none⟩) hg).trans d2
      have zr := hbw.size
      have BW := Lib.hid hbw
      have HE : Hid (∀ h : j < s.ns.length, s.ns[j]'h = e) := Lib.hid (fun _ => he.symm)
      clear hc d0 d1 d2 he hl hbw hq
      by_cases hx : e.wat = x
      · have hb : (e.wat == x) = true := by simp [hx]
        have HX := Lib.hid hx
        clear hx
        go_wp2_with fail
        go_ret
        refine ⟨int_ans ?_, BW.out.alloc zr _⟩
        unfold watR
        rw [fir_at (j := j) (by have := HA.out.ln; omega) HALL.out (by rw [HE.out]; exact decide_eq_true HX.out)]
      · have hb : (e.wat == x) = false := by simp [hx]
        have HX := Lib.hid hx
        clear hx
        go_wp2_with fail
        go_roundw
        case rel =>
          refine ⟨j + 1, by omega, by go_num, fun q hq hl => ?_, BW.out.alloc zr _⟩
          by_cases eq : q = j
          · subst eq; rw [HE.out]; exact decide_eq_false HX.out
          · exact HALL.out q (by omega) hl
        case measure => simp [intOf]; omega
    · have hjk : ¬ ((j : Int) < (k : Int)) := by omega
      go_wp2_with fail
      go_ret
      refine ⟨int_ans ?_, hbw⟩
      unfold watR
      rw [fir_all (j := j) HALL.out (by have := HA.out.ln; omega)]

set_option maxRecDepth 100000 in
set_option maxHeartbeats 4000000 in
theorem spec_NodeNamed (s : GS) (x : ByteArray) (A : Option Addr) (k c : Nat) (B : Option Addr) (m d : Nat) (w : World) (hk : k ≤ 1048576) (ha : ShowAt w s A k B m) :
    Calls Tryz.prog 29 #[shV A k c B m d s.h, .string x] w fun e w' => e = .returned (.int .i64 (namR s.ns x)) ∧ Below w.heap.size w w' := by
  have HA := Lib.hid ha
  clear ha
  obtain ⟨h, hh⟩ : ∃ h, h = s.h := ⟨_, rfl⟩
  rw [← hh]
  clear hh
  unfold shV
  go_enter Tryz.func29, Tryz.ntmps29
  go_wp2_with fail
  go_loopw [10] (fun i wr => ∃ j : Nat, j ≤ k ∧ i = .int .i64 j ∧ (∀ q (hq : q < j) (hl : q < s.ns.length), decide ((s.ns[q]).name = x) = false) ∧ Below w.heap.size w wr) (fun i _ => k - (intOf i).toNat)
  case atStart => exact ⟨0, Nat.zero_le _, rfl, fun q hq => by omega, (by repeat (first | exact Below.refl _ _ | refine below_step (by assumption) (by first | omega | (simp; done) | (simp; omega)) ?_ | refine below_drewN ?_ _ | refine Below.drew ?_ | refine Below.setCell ?_ (by first | omega | (simp; done) | (simp; omega)) _ | refine Below.alloc ?_ (by first | omega | (simp; done) | (simp; omega)) _))⟩
  case round =>
    obtain ⟨j, hj, rfl, hall, hbw⟩ := hrel
    have HALL := Lib.hid hall
    clear hall
    by_cases hlt : j < k
    · have hjk : ((j : Int) < (k : Int)) := by omega
      have hl := HA.out.ln
      obtain ⟨g, o, rfl, hg, hc⟩ := HA.out.nodes (by omega)
      have hc1 := hc j (by omega)
      obtain ⟨e, he⟩ : ∃ e, e = s.ns[j]'(by omega) := ⟨_, rfl⟩
      rw [← he] at hc1
      obtain ⟨d0, d2, L, cl, d1, _⟩ := hc1
      obtain ⟨q, hq⟩ : ∃ q, q = e.lab.length := ⟨_, rfl⟩
      rw [← hq] at d1
      have k0 := (hbw.cell (p := ⟨g, o + j * 3, none⟩) hg).trans d0
      have k1 := (hbw.cell (p := ⟨g, o + j * 3 + 1, none⟩) hg).trans d1
      have k2 := (hbw.cell (p := ⟨g, o + j * 3 + 2, none⟩) hg).trans d2
      have zr := hbw.size
      have BW := Lib.hid hbw
      have HE : Hid (∀ h : j < s.ns.length, s.ns[j]'h = e) := Lib.hid (fun _ => he.symm)
      clear hc d0 d1 d2 he hl hbw hq
      by_cases hx : e.name = x
      · have hb := bytes_sameP hx
        have HX := Lib.hid hx
        clear hx
        go_wp2_with fail
        go_ret
        refine ⟨int_ans ?_, BW.out.alloc zr _⟩
        unfold namR
        rw [fir_at (j := j) (by have := HA.out.ln; omega) HALL.out (by rw [HE.out]; exact decide_eq_true HX.out)]
      · have hb := bytes_otherP hx
        have HX := Lib.hid hx
        clear hx
        go_wp2_with fail
        go_roundw
        case rel =>
          refine ⟨j + 1, by omega, by go_num, fun q hq hl => ?_, BW.out.alloc zr _⟩
          by_cases eq : q = j
          · subst eq; rw [HE.out]; exact decide_eq_false HX.out
          · exact HALL.out q (by omega) hl
        case measure => simp [intOf]; omega
    · have hjk : ¬ ((j : Int) < (k : Int)) := by omega
      go_wp2_with fail
      go_ret
      refine ⟨int_ans ?_, hbw⟩
      unfold namR
      rw [fir_all (j := j) HALL.out (by have := HA.out.ln; omega)]

set_option maxRecDepth 100000 in
set_option maxHeartbeats 4000000 in
theorem spec_l08Free (s : GS) (x : Int) (A : Option Addr) (k c : Nat) (B : Option Addr) (m d : Nat) (w : World) (hm : m ≤ 1048576) (ha : ShowAt w s A k B m) :
    Calls Tryz.prog 56 #[shV A k c B m d s.h, .int .i64 x] w fun e w' => e = .returned (.int .i64 (freR s.ts x)) ∧ Below w.heap.size w w' := by
  have HA := Lib.hid ha
  clear ha
  obtain ⟨h, hh⟩ : ∃ h, h = s.h := ⟨_, rfl⟩
  rw [← hh]
  clear hh
  unfold shV
  go_enter Tryz.func56, Tryz.ntmps56
  go_wp2_with fail
  go_loopw [10] (fun i wr => ∃ j : Nat, j ≤ m ∧ i = .int .i64 j ∧ (∀ q (hq : q < j) (hl : q < s.ts.length), ((s.ts[q]).fr && decide ((s.ts[q]).v = x)) = false) ∧ Below w.heap.size w wr) (fun i _ => m - (intOf i).toNat)
  case atStart => exact ⟨0, Nat.zero_le _, rfl, fun q hq => by omega, (by repeat (first | exact Below.refl _ _ | refine below_step (by assumption) (by first | omega | (simp; done) | (simp; omega)) ?_ | refine below_drewN ?_ _ | refine Below.drew ?_ | refine Below.setCell ?_ (by first | omega | (simp; done) | (simp; omega)) _ | refine Below.alloc ?_ (by first | omega | (simp; done) | (simp; omega)) _))⟩
  case round =>
    obtain ⟨j, hj, rfl, hall, hbw⟩ := hrel
    have HALL := Lib.hid hall
    clear hall
    by_cases hlt : j < m
    · have hjk : ((j : Int) < (m : Int)) := by omega
      have hl := HA.out.lt
      obtain ⟨g, o, rfl, hg, hc⟩ := HA.out.ties (by omega)
      have hc1 := hc j (by omega)
      obtain ⟨e, he⟩ : ∃ e, e = s.ts[j]'(by omega) := ⟨_, rfl⟩
      rw [← he] at hc1
      obtain ⟨eu, ev, elo, ehi, ef⟩ := e
      obtain ⟨d0, d1, d2, d3, d4⟩ := hc1
      dsimp only at d0 d1 d2 d3 d4
      have k0 := (hbw.cell (p := ⟨g, o + j * 5, none⟩) hg).trans d0
      have k1 := (hbw.cell (p := ⟨g, o + j * 5 + 1, none⟩) hg).trans d1
      have k2 := (hbw.cell (p := ⟨g, o + j * 5 + 2, none⟩) hg).trans d2
      have k3 := (hbw.cell (p := ⟨g, o + j * 5 + 3, none⟩) hg).trans d3
      have k4 := (hbw.cell (p := ⟨g, o + j * 5 + 4, none⟩) hg).trans d4
      have zr := hbw.size
      have BW := Lib.hid hbw
      have HE : Hid (∀ h : j < s.ts.length, s.ts[j]'h = ⟨eu, ev, elo, ehi, ef⟩) := Lib.hid (fun _ => he.symm)
      have HNO : Hid ((ef && decide (ev = x)) = false → ∀ q (hq : q < j + 1) (hl : q < s.ts.length), ((s.ts[q]).fr && decide ((s.ts[q]).v = x)) = false) := Lib.hid (fun h0 q hq hl => by
        by_cases eq : q = j
        · subst eq; rw [← he]; exact h0
        · exact HALL.out q (by omega) hl)
      clear hc d0 d1 d2 d3 d4 he hl hbw
      cases ef with
      | false =>
        go_wp2_with fail
        go_roundw
        case rel => exact ⟨j + 1, by omega, by go_num, HNO.out rfl, BW.out.alloc zr _⟩
        case measure => simp [intOf]; omega
      | true =>
        by_cases hx : ev = x
        · have hb : (ev == x) = true := by simp [hx]
          have HX := Lib.hid hx
          clear hx
          go_wp2_with fail
          go_ret
          refine ⟨int_ans ?_, BW.out.alloc zr _⟩
          unfold freR
          rw [fir_at (j := j) (by have := HA.out.lt; omega) HALL.out (by rw [HE.out]; dsimp only; rw [decide_eq_true HX.out]; rfl)]
        · have hb : (ev == x) = false := by simp [hx]
          have HX := Lib.hid hx
          clear hx
          go_wp2_with fail
          go_roundw
          case rel => exact ⟨j + 1, by omega, by go_num, HNO.out (by rw [decide_eq_false HX.out]; rfl), BW.out.alloc zr _⟩
          case measure => simp [intOf]; omega
    · have hjk : ¬ ((j : Int) < (m : Int)) := by omega
      go_wp2_with fail
      go_ret
      refine ⟨int_ans ?_, hbw⟩
      unfold freR
      rw [fir_all (j := j) HALL.out (by have := HA.out.lt; omega)]

end Go.Proofs.YtgajodcgedhikaaGreatDoor

namespace Go.Proofs.YtgajodcgedhikaaGreatDoor
set_option linter.unusedVariables false

/-- A world of the class C. -/
structure WC (C : World → Prop) where
  w : World
  h : C w

theorem region_wc {P : Program} (C : World → Prop) {id : Nat} {Q : Exit → Act → World → Prop} {a : Act} {w : World} {l : List Oper} (hm : P.follows .mixedOrders = true) (hB : Region.lexB .any l.toArray = true)
    (hC : C w.drew) (h : wpQuiet P l.toArray (fun w' => ∃ x : WC C, w' = x.w) (fun a' => ∀ w', (∃ x : WC C, w' = x.w) → Q .normal a' w') l a) : (Code.region id l.toArray true).wp P Q a w :=
  wp_region_quiet (C := fun w' => ∃ x : WC C, w' = x.w) hm hB ⟨⟨_, hC⟩, rfl⟩ (by simpa using h)

/-- A callee's contract, met in a world of the class. -/
theorem wc_calls {P : Program} {C : World → Prop} {f : FuncId} {args : Array Value} {x : WC C} {v : Value} (h : Calls P f args x.w fun e w' => e = .returned v ∧ C w') :
    Calls P f args x.w fun e w' => e = .returned v ∧ ∃ y : WC C, w' = y.w :=
  h.mono fun _ _ ⟨he, hc⟩ => ⟨he, ⟨_, hc⟩, rfl⟩

end Go.Proofs.YtgajodcgedhikaaGreatDoor
