/-
  PLAIN: shows as the program reads them of a text: every line as far as it goes, and the text decides.
  SHOWS READ BY THE PROGRAM: a show in its box, its rows its own; what a line adds to it.
  WALKS of slices.Min and slices.Max at []int.
  WALKS of the program: literals, LabelOk, ValuesOk, CountValues, ImpliesLabel.
  PLAIN: what the maps over a show's nodes hold: the first node of a name; the last node that watches a proposition; what is left of a label when its observed literals are struck.
  PLAIN: a show's nodes as the program checks them are valid nodes: the first of a name, the last that watches; what is left of a label is nothing just where each literal is observed.
-/
import Derived.Test.YtgajodcgedhikaaGreatDoorBdLwM
import Derived.Test.YtgajodcgedhikaaGreatDoorStG
import Derived.Test.YtgajodcgedhikaaGreatDoorBdShB
import Derived.Maps.Views
import Derived.Maps.Ext
namespace Go.Proofs.YtgajodcgedhikaaGreatDoor
open Go.RowKit
set_option linter.unusedVariables false
set_option linter.unusedSimpArgs false

def prH (s : GS) (ws : List ByteArray) : GS := ⟨s.ns, s.ts, (parseOf (wAt ws 1)).getD 0⟩
def prNd (ws : List ByteArray) : GN := ⟨wAt ws 1, (parL (wAt ws 2)).1, (parseOf (wAt ws 4)).getD 0⟩
def prN (s : GS) (ws : List ByteArray) : GS := ⟨s.ns ++ [prNd ws], s.ts, s.h⟩
def prTi (s : GS) (ws : List ByteArray) (fr : Bool) : GT := ⟨namR s.ns (wAt ws 1), namR s.ns (wAt ws 2), (parseOf (wAt ws 3)).getD 0, (parseOf (wAt ws 4)).getD 0, fr⟩
def prT (s : GS) (ws : List ByteArray) (fr : Bool) : GS := ⟨s.ns, s.ts ++ [prTi s ws fr], s.h⟩
/-- The place of a line's first word among the four kinds: 4 if it is none of them. -/
def kiR (x : ByteArray) : Nat := if x = bHor then 0 else if x = bNode then 1 else if x = bTie then 2 else if x = bFree then 3 else 4
def kiS (m : Nat) (s : GS) (ws : List ByteArray) : GS := match m with
  | 0 => prH s ws
  | 1 => prN s ws
  | 2 => prT s ws false
  | 3 => prT s ws true
  | _ => s
def prL (s : GS) (ws : List ByteArray) : GS := kiS (kiR (wAt ws 0)) s ws
def prJ (ls : List ByteArray) : Nat → GS
  | 0 => gS0
  | j + 1 => prL (prJ ls j) (split (ls[j]?.getD ⟨#[]⟩) bSp)
def prR (t : ByteArray) : GS × Bool := if (lines t).length ≤ 22 then (if shR (prJ (lines t) (lines t).length) = true ∧ fmtS (prJ (lines t) (lines t).length) = t then (prJ (lines t) (lines t).length, true) else (gS0, false)) else (gS0, false)
theorem prJ_next {ls : List ByteArray} {j : Nat} {s : GS} {l : ByteArray} (h : prJ ls j = s) (hl : ls[j]? = some l) : prJ ls (j + 1) = prL s (split l bSp) := by
  conv => lhs; unfold prJ
  rw [h, hl]; rfl
theorem parse_none0 : (parseOf (⟨#[]⟩ : ByteArray)).getD 0 = 0 := by decide +kernel
theorem prJ_nodes {s : GS} (h : shR s = true) : ∀ j, j ≤ s.ns.length → prJ (linS s) (j + 1) = ⟨s.ns.take j, [], s.h⟩
  | 0, _ => by
    have hr := shR_rng h
    have e0 : (linS s)[0]? = some (horL s.h) := rfl
    rw [prJ_next (s := gS0) rfl e0, hor_words]
    show (⟨[], [], (parseOf (numB s.h)).getD 0⟩ : GS) = _
    rw [parse_numB _ (by omega) (by omega)]
    rfl
  | j + 1, hj => by
    have ih := prJ_nodes h j (by omega)
    have hr := shR_rng h
    have e0 : (linS s)[j + 1]? = some (nodL s.ns[j]) := by
      unfold linS
      rw [List.getElem?_append_left (by simp; omega), List.getElem?_cons_succ, List.getElem?_map, List.getElem?_eq_getElem (by omega)]; rfl
    obtain ⟨h1, h2, h3, h4, _⟩ := shR_node h (show j < s.ns.length by omega)
    rw [prJ_next ih e0, nod_words h1 h2]
    have htk : s.ns.take (j + 1) = s.ns.take j ++ [s.ns[j]] := by
      rw [List.take_add_one, List.getElem?_eq_getElem (show j < s.ns.length by omega)]; rfl
    have hstep : ∀ w : List ByteArray, wAt w 0 = bNode → prNd w = s.ns[j] → prL ⟨s.ns.take j, [], s.h⟩ w = ⟨s.ns.take (j + 1), [], s.h⟩ := by
      intro w hw0 hnd
      unfold prL
      rw [hw0, show kiR bNode = 1 from by decide]
      show (⟨s.ns.take j ++ [prNd w], [], s.h⟩ : GS) = _
      rw [hnd, htk]
    by_cases h0 : s.ns[j].wat = 0
    · rw [if_pos h0]
      refine hstep _ rfl ?_
      unfold prNd
      rw [show wAt [bNode, s.ns[j].name, fmtL s.ns[j].lab] 2 = fmtL s.ns[j].lab from rfl, par_of h2, show wAt [bNode, s.ns[j].name, fmtL s.ns[j].lab] 4 = ⟨#[]⟩ from rfl, parse_none0]
      rw [← h0]; rfl
    · rw [if_neg h0]
      refine hstep _ rfl ?_
      unfold prNd
      rw [show wAt [bNode, s.ns[j].name, fmtL s.ns[j].lab, bWatch, numB s.ns[j].wat] 2 = fmtL s.ns[j].lab from rfl, par_of h2, show wAt [bNode, s.ns[j].name, fmtL s.ns[j].lab, bWatch, numB s.ns[j].wat] 4 = numB s.ns[j].wat from rfl, parse_numB _ (by omega) (by omega)]
      rfl
theorem prJ_ties {s : GS} (h : shR s = true) : ∀ j, j ≤ s.ts.length → prJ (linS s) (s.ns.length + 1 + j) = ⟨s.ns, s.ts.take j, s.h⟩
  | 0, _ => by
    have := prJ_nodes h s.ns.length (Nat.le_refl _)
    rw [List.take_of_length_le (Nat.le_refl _)] at this
    exact this
  | j + 1, hj => by
    have ih := prJ_ties h j (by omega)
    have hr := shR_rng h
    have e0 : (linS s)[s.ns.length + 1 + j]? = some (tieW s.ns s.ts[j]) := by
      unfold linS
      rw [List.getElem?_append_right (by simp), show s.ns.length + 1 + j - (horL s.h :: s.ns.map nodL).length = j from by simp, List.getElem?_map, List.getElem?_eq_getElem (by omega)]; rfl
    obtain ⟨h1, h2, h3, h4, h5⟩ := shR_tie h (show j < s.ts.length by omega)
    obtain ⟨hu, hu2⟩ := nmAt_of h h1.1 h1.2
    obtain ⟨hv, hv2⟩ := nmAt_of h h2.1 h2.2
    rw [show s.ns.length + 1 + (j + 1) = s.ns.length + 1 + j + 1 from by omega, prJ_next ih e0, tie_words hu hv]
    have hT : ∀ q, prTi ⟨s.ns, s.ts.take j, s.h⟩ [if s.ts[j].fr then bFree else bTie, nmAt s.ns s.ts[j].u, nmAt s.ns s.ts[j].v, numB s.ts[j].lo, numB s.ts[j].hi] q = ⟨s.ts[j].u, s.ts[j].v, s.ts[j].lo, s.ts[j].hi, q⟩ := by
      intro q
      show (GT.mk (namR s.ns (nmAt s.ns s.ts[j].u)) (namR s.ns (nmAt s.ns s.ts[j].v)) ((parseOf (numB s.ts[j].lo)).getD 0) ((parseOf (numB s.ts[j].hi)).getD 0) q) = _
      rw [parse_numB _ (by omega) (by omega), parse_numB _ (by omega) (by omega), hu2, hv2]
      rfl
    have htk : s.ts.take (j + 1) = s.ts.take j ++ [s.ts[j]] := by
      rw [List.take_add_one, List.getElem?_eq_getElem (show j < s.ts.length by omega)]; rfl
    unfold prL
    have hw0 : wAt [if s.ts[j].fr then bFree else bTie, nmAt s.ns s.ts[j].u, nmAt s.ns s.ts[j].v, numB s.ts[j].lo, numB s.ts[j].hi] 0 = if s.ts[j].fr then bFree else bTie := rfl
    rw [hw0]
    have hk : kiR (if s.ts[j].fr then bFree else bTie) = if s.ts[j].fr then 3 else 2 := by
      cases s.ts[j].fr <;> decide
    rw [hk]
    cases hf : s.ts[j].fr with
    | false =>
      show (⟨s.ns, s.ts.take j ++ [prTi ⟨s.ns, s.ts.take j, s.h⟩ _ false], s.h⟩ : GS) = _
      have e := hT false
      rw [hf] at e
      rw [e, htk]
      rw [show (GT.mk s.ts[j].u s.ts[j].v s.ts[j].lo s.ts[j].hi false) = s.ts[j] from by rw [← hf]]
    | true =>
      show (⟨s.ns, s.ts.take j ++ [prTi ⟨s.ns, s.ts.take j, s.h⟩ _ true], s.h⟩ : GS) = _
      have e := hT true
      rw [hf] at e
      rw [e, htk]
      rw [show (GT.mk s.ts[j].u s.ts[j].v s.ts[j].lo s.ts[j].hi true) = s.ts[j] from by rw [← hf]]
theorem prR_fmt {s : GS} (h : shR s = true) : prR (fmtS s) = (s, true) := by
  have hl : lines (fmtS s) = linS s := lines_cat (fmtS_bytes h) (lin_free h)
  have hp := prJ_ties h s.ts.length (Nat.le_refl _)
  rw [List.take_of_length_le (Nat.le_refl _)] at hp
  have hn : s.ns.length + 1 + s.ts.length = (linS s).length := by unfold linS; simp; omega
  rw [hn, ← hl] at hp
  have hr := shR_rng h
  unfold prR
  rw [if_pos (by rw [hl, ← hn]; omega), hp, if_pos ⟨h, rfl⟩]
theorem prR_cases (t : ByteArray) : prR t = (gS0, false) ∨ ∃ s, shR s = true ∧ fmtS s = t ∧ prR t = (s, true) := by
  unfold prR
  split
  · split
    · next h => exact .inr ⟨_, h.1, h.2, rfl⟩
    · exact .inl rfl
  · exact .inl rfl
/-- The program's reading and the document's. -/
theorem prR_eq (t : ByteArray) : prR t = psR t := by
  rcases psR_cases t with h | ⟨s, h1, h2, h3⟩
  · rcases prR_cases t with g | ⟨s, g1, g2, g3⟩
    · rw [g, h]
    · subst g2
      rw [psR_fmt g1] at h
      cases h
  · subst h2
    rw [h3, prR_fmt h1]
theorem prR_no {t : ByteArray} (h : 22 < (lines t).length) : psR t = (gS0, false) := by
  rw [← prR_eq]; unfold prR; rw [if_neg (by omega)]
theorem prR_yes {t : ByteArray} (h : (lines t).length ≤ 22) : psR t = if shR (prJ (lines t) (lines t).length) = true ∧ fmtS (prJ (lines t) (lines t).length) = t then (prJ (lines t) (lines t).length, true) else (gS0, false) := by
  rw [← prR_eq]; unfold prR; rw [if_pos h]

end Go.Proofs.YtgajodcgedhikaaGreatDoor

namespace Go.Proofs.YtgajodcgedhikaaGreatDoor
open Go.RowKit
set_option linter.unusedVariables false
set_option linter.unusedSimpArgs false

/-- What the program has read behind j lines. -/
structure PrOk (s : GS) (j : Nat) : Prop where
  ns : s.ns.length ≤ j
  ts : s.ts.length ≤ j
  each : ∀ e ∈ s.ns, e.name.size ≤ 1048576 ∧ e.lab.length ≤ 3
  wf : ∀ e ∈ s.ns, e.wf
theorem PrOk.none : PrOk gS0 0 := ⟨Nat.le_refl _, Nat.le_refl _, fun e he => by simp [gS0] at he, fun e he => by simp [gS0] at he⟩
theorem PrOk.up {s : GS} {j i : Nat} (h : PrOk s j) (hi : j ≤ i) : PrOk s i := ⟨Nat.le_trans h.ns hi, Nat.le_trans h.ts hi, h.each, h.wf⟩
theorem wf_rng {n : Int} (h0 : -9223372036854775808 ≤ n) (h1 : n ≤ 9223372036854775807) : (Lit.int .i64 n).wf = true := by
  simp [Lit.wf, IntKind.min, IntKind.max, IntKind.signed, IntKind.bits]
  omega
theorem parse_wf (x : ByteArray) : (Lit.int .i64 ((parseOf x).getD 0)).wf = true := by
  cases h : parseOf x with
  | none => exact wf_rng (by show (-9223372036854775808 : Int) ≤ 0; omega) (by show (0 : Int) ≤ 9223372036854775807; omega)
  | some v => exact wf_rng (parse_some h).2.2.1 (parse_some h).2.2.2
theorem parL_lab (x : ByteArray) : (parL x).1 = [] ∨ labR (parL x).1 = true := by
  unfold parL
  split
  · exact .inl rfl
  · split
    · split
      · next h => exact .inr h.1
      · exact .inl rfl
    · exact .inl rfl
def drW (s : Nat) : Bool := all3 fun t => all3 fun u => (drL s t u).all fun y => decide (-3 ≤ y) && decide (y ≤ 3)
theorem drW_all : all3 drW = true := by decide +kernel
theorem lab_rng {l : List Int} (h : labR l = true) : ∀ y ∈ l, -3 ≤ y ∧ y ≤ 3 := by
  obtain ⟨s, t, u, hs, ht, hu, rfl⟩ := dr_of h
  have h1 := all3_of (all3_of (all3_of drW_all hs) ht) hu
  intro y hy
  have h2 := List.all_eq_true.1 h1 y hy
  rw [Bool.and_eq_true, decide_eq_true_eq, decide_eq_true_eq] at h2
  exact h2
theorem prNd_ok {ws : List ByteArray} (hw : ∀ x ∈ ws, x.size ≤ 1048576) : ((prNd ws).name.size ≤ 1048576 ∧ (prNd ws).lab.length ≤ 3) ∧ (prNd ws).wf := by
  have h1 : (prNd ws).name.size ≤ 1048576 := wAt_size hw 1
  have h2 : (prNd ws).lab.length ≤ 3 := parL_len3 _
  refine ⟨⟨h1, h2⟩, ?_, ?_, ?_, parse_wf _⟩
  · unfold maxLen; omega
  · unfold maxLen; omega
  · intro y hy
    rcases parL_lab (wAt ws 2) with h | h
    · have hy2 : y ∈ (parL (wAt ws 2)).1 := hy
      rw [h] at hy2; simp at hy2
    · have := lab_rng h y hy
      exact wf_rng (by omega) (by omega)
theorem PrOk.kind {s : GS} {j : Nat} {ws : List ByteArray} (h : PrOk s j) (hw : ∀ x ∈ ws, x.size ≤ 1048576) (m : Nat) : PrOk (kiS m s ws) (j + 1) := by
  have h1 := h.ns
  have h2 := h.ts
  match m with
  | 0 => exact ⟨by show s.ns.length ≤ _; omega, by show s.ts.length ≤ _; omega, h.each, h.wf⟩
  | 1 =>
    obtain ⟨ha, hb⟩ := prNd_ok hw
    refine ⟨by show (s.ns ++ [prNd ws]).length ≤ _; simp; omega, by show s.ts.length ≤ _; omega, fun e he => ?_, fun e he => ?_⟩
    · rcases List.mem_append.1 he with he | he
      · exact h.each e he
      · obtain rfl : e = prNd ws := by simpa using he
        exact ha
    · rcases List.mem_append.1 he with he | he
      · exact h.wf e he
      · obtain rfl : e = prNd ws := by simpa using he
        exact hb
  | 2 => exact ⟨by show s.ns.length ≤ _; omega, by show (s.ts ++ [prTi s ws false]).length ≤ _; simp; omega, h.each, h.wf⟩
  | 3 => exact ⟨by show s.ns.length ≤ _; omega, by show (s.ts ++ [prTi s ws true]).length ≤ _; simp; omega, h.each, h.wf⟩
  | _ + 4 => exact h.up (Nat.le_succ _)
theorem prJ_ok {ls : List ByteArray} (hs : ∀ x ∈ ls, x.size ≤ 1048576) : ∀ j : Nat, PrOk (prJ ls j) j
  | 0 => PrOk.none
  | j + 1 => by
    unfold prJ prL
    refine (prJ_ok hs j).kind (fun x hx => ?_) _
    have h2 := split_sizes _ _ x hx
    have h3 : (ls[j]?.getD ⟨#[]⟩).size ≤ 1048576 := by
      cases he : ls[j]? with
      | none => show (ByteArray.mk #[]).size ≤ _; exact Nat.zero_le _
      | some l => exact hs l (List.mem_of_getElem? he)
    exact Nat.le_trans h2 h3
theorem PrOk.shB {s : GS} {j : Nat} (h : PrOk s j) (hj : j ≤ 1000) : ShB s := by
  have hsum : ∀ j, slJ s.ns j ≤ 3 * j := by
    intro j
    induction j with
    | zero => exact Nat.le_refl _
    | succ j ih =>
      have : (s.ns[j]?.getD gN0).lab.length ≤ 3 := by
        cases he : s.ns[j]? with
        | none => show ([] : List Int).length ≤ 3; exact Nat.zero_le _
        | some e => exact (h.each e (List.mem_of_getElem? he)).2
      show slJ s.ns j + (s.ns[j]?.getD gN0).lab.length ≤ _
      omega
  have h1 := h.ns
  have h2 := h.ts
  exact ⟨by omega, by omega, fun e he => ⟨(h.each e he).1, by have := (h.each e he).2; omega⟩, by have := hsum s.ns.length; omega⟩

theorem Within.set {lo hi : Nat} (w : World) (p : Addr) (v : Value) (h0 : lo ≤ p.block) (h1 : p.block < hi) : Within lo hi w (w.setCell p v) :=
  ⟨rfl, rfl, rfl, by simp, fun k hk hx => Below.heap_setCell _ _ _ _ (by omega)⟩
theorem Within.sbox {lo hi b : Nat} {w w' : World} {v0 v1 v2 : Value} (h : Within lo hi w w') (hb : SBox w b v0 v1 v2) (hx : b < lo ∨ hi ≤ b) : SBox w' b v0 v1 v2 := hb.same (h.block b hb.lt hx)
theorem Within.own {lo hi B e s n : Nat} {w w' : World} {v : Value} {xs : List Value} (h : Within lo hi w w') (ho : w.ownsRow B e s v n xs) (hx : ∀ q, v.ownBlock = some q → q < lo ∨ hi ≤ q) : w'.ownsRow B e s v n xs :=
  Keep.own (P := fun k => k < lo ∨ hi ≤ k) ⟨h.os, h.tape, h.output, h.size, h.block⟩ ho hx

/-- A show in its box, its rows its own. -/
structure RdS (W : World) (b hi : Nat) (s : GS) (A : Option Addr) (k c : Nat) (B : Option Addr) (m d : Nat) (zs : List NL) : Prop where
  box : SBox W b (.slice A k c) (.slice B m d) (.int .i64 s.h)
  own : OwnS W (b + 1) hi s A k c B m d zs
theorem RdS.below {W W' : World} {b hi k c m d : Nat} {s : GS} {A B : Option Addr} {zs : List NL} (h : RdS W b hi s A k c B m d zs) (hb : Below W.heap.size W W') : RdS W' b hi s A k c B m d zs := ⟨h.box.below hb, h.own.below hb⟩
theorem RdS.alloc {W : World} {b hi k c m d : Nat} {s : GS} {A B : Option Addr} {zs : List NL} (h : RdS W b hi s A k c B m d zs) (o : Obj) : RdS (W.alloc o) b hi s A k c B m d zs := h.below ((Below.refl _ _).alloc (Nat.le_refl _) o)
theorem RdS.drew {W : World} {b hi k c m d : Nat} {s : GS} {A B : Option Addr} {zs : List NL} (h : RdS W b hi s A k c B m d zs) : RdS W.drew b hi s A k c B m d zs := h.below ((Below.refl _ _).drew)
theorem RdS.up {W : World} {b hi hi' k c m d : Nat} {s : GS} {A B : Option Addr} {zs : List NL} (h : RdS W b hi s A k c B m d zs) (hh : hi ≤ hi') : RdS W b hi' s A k c B m d zs := ⟨h.box, h.own.base (Nat.le_refl _) hh⟩
theorem RdS.at_ {W : World} {b hi k c m d : Nat} {s : GS} {A B : Option Addr} {zs : List NL} (h : RdS W b hi s A k c B m d zs) : ShowAt W s A k B m := h.own.at_
/-- Behind a reading. -/
def RdAt (w w' : World) (b hi : Nat) (s : GS) : Prop := ∃ A k c B m d zs, RdS w' b w'.heap.size s A k c B m d zs ∧ Within b hi w w'
theorem RdAt.from {w w1 w' : World} {b hi : Nat} {s : GS} (h : RdAt w1 w' b hi s) (hb : Below w.heap.size w w1) : RdAt w w' b hi s := by
  obtain ⟨A, k, c, B, m, d, zs, h1, h2⟩ := h
  exact ⟨A, k, c, B, m, d, zs, h1, (Within.of_below hb).trans h2⟩
theorem RdAt.to {w w1 w' : World} {b hi : Nat} {s : GS} (h : RdAt w w1 b hi s) (hb : Below w1.heap.size w1 w') : RdAt w w' b hi s := by
  obtain ⟨A, k, c, B, m, d, zs, h1, h2⟩ := h
  exact ⟨A, k, c, B, m, d, zs, (h1.below hb).up hb.size, h2.trans (Within.of_below hb)⟩
/-- The horizon is stored. -/
theorem RdS.horizon {W : World} {b hi k c m d : Nat} {s : GS} {A B : Option Addr} {zs : List NL} (h : RdS W b hi s A k c B m d zs) (h1 : b < hi) (h2 : hi ≤ W.heap.size) (x : Int) : RdAt W (W.setCell ⟨b, 2, none⟩ (.int .i64 x)) b hi ⟨s.ns, s.ts, x⟩ :=
  ⟨A, k, c, B, m, d, zs, ⟨h.box.set2, ((h.own.set ⟨b, 2, none⟩ _ (Nat.lt_succ_self b)).horizon x).base (Nat.le_refl _) (by simpa using h2)⟩, Within.set _ _ _ (Nat.le_refl _) h1⟩
/-- A node is appended and stored. -/
theorem RdS.node {w w6 : World} {b hi k c m d g3 cap : Nat} {A B : Option Addr} {s : GS} {zs : List NL} {z : NL} (h : RdS w b hi s A k c B m d zs) (h1 : b < hi) (hhi : hi ≤ w.heap.size) (hz : w.ownsRow (b + 1) 3 1 z.V z.e.lab.length (z.e.lab.map intV)) (hzn : ∀ q, z.V.ownBlock = some q → hi ≤ q)
    (hg : w.grownBy w6 (Value.slice A k c).ownBlock) (ho : w6.ownsRow (b + 1) 38 3 (.slice (some ⟨g3, 0, none⟩) (k + 1) cap) (k + 1) (cellsZ (zs ++ [z]))) (hat : (Value.slice A k c).ownBlock = some g3 ∨ w.heap.size ≤ g3) :
    RdAt w (w6.setCell ⟨b, 0, none⟩ (.slice (some ⟨g3, 0, none⟩) (k + 1) cap)) b hi ⟨s.ns ++ [z.e], s.ts, s.h⟩ := by
  have hrow : ∀ q, (Value.slice A k c).ownBlock = some q → b + 1 ≤ q ∧ q < hi := fun q hq => ⟨(h.own.nodes.row.lt q hq).1, h.own.nodes.le q hq⟩
  have hbox : SBox w6 b (.slice A k c) (.slice B m d) (.int .i64 s.h) := h.box.grown hg (fun e => by have := (hrow b e).1; omega)
  have hn := h.own.node hhi hz hzn hg ho hat
  refine ⟨_, _, _, _, _, _, _, ⟨hbox.set0, (hn.set ⟨b, 0, none⟩ _ (Nat.lt_succ_self b)).base (Nat.le_refl _) (by simp)⟩, ?_⟩
  exact (Within.grown hg (fun q hq => ⟨by have := (hrow q hq).1; omega, (hrow q hq).2⟩)).trans (Within.set _ _ _ (Nat.le_refl _) h1)
theorem RdS.boxN {w w6 : World} {b hi k c m d : Nat} {A B : Option Addr} {s : GS} {zs : List NL} (h : RdS w b hi s A k c B m d zs) (hg : w.grownBy w6 (Value.slice A k c).ownBlock) : SBox w6 b (.slice A k c) (.slice B m d) (.int .i64 s.h) :=
  h.box.grown hg (fun e => by have := (h.own.nodes.row.lt b e).1; omega)
theorem RdS.boxT {w w6 : World} {b hi k c m d : Nat} {A B : Option Addr} {s : GS} {zs : List NL} (h : RdS w b hi s A k c B m d zs) (hg : w.grownBy w6 (Value.slice B m d).ownBlock) : SBox w6 b (.slice A k c) (.slice B m d) (.int .i64 s.h) :=
  h.box.grown hg (fun e => by have := (h.own.ties.lt b e).1; omega)
theorem RdS.farT {w w6 : World} {b hi k c m d q o : Nat} {A B : Option Addr} {s : GS} {zs : List NL} {v : Value} (h : RdS w b hi s A k c B m d zs) (hg : w.grownBy w6 (Value.slice B m d).ownBlock) (h1 : hi ≤ q) (h2 : q < w.heap.size) (h3 : w.cell? ⟨q, o, none⟩ = some v) : w6.cell? ⟨q, o, none⟩ = some v :=
  (World.cell?_of_block (a := ⟨q, o, none⟩) (hg.block q h2 (fun e => by have := (h.own.tsep q e.symm).2.2; omega))).trans h3
/-- A tie is appended and stored. -/
theorem RdS.tie {w w6 : World} {b hi k c m d g3 cap : Nat} {A B : Option Addr} {s : GS} {zs : List NL} {t : GT} (h : RdS w b hi s A k c B m d zs) (h1 : b < hi) (hhi : hi ≤ w.heap.size)
    (hg : w.grownBy w6 (Value.slice B m d).ownBlock) (ho : w6.ownsRow (b + 1) 42 5 (.slice (some ⟨g3, 0, none⟩) (m + 1) cap) (m + 1) (cellsT (s.ts ++ [t]))) (hat : (Value.slice B m d).ownBlock = some g3 ∨ w.heap.size ≤ g3) :
    RdAt w (w6.setCell ⟨b, 1, none⟩ (.slice (some ⟨g3, 0, none⟩) (m + 1) cap)) b hi ⟨s.ns, s.ts ++ [t], s.h⟩ := by
  have hrow : ∀ q, (Value.slice B m d).ownBlock = some q → b + 1 ≤ q ∧ q < hi := fun q hq => ⟨(h.own.ties.lt q hq).1, (h.own.tsep q hq).2.2⟩
  have hbox : SBox w6 b (.slice A k c) (.slice B m d) (.int .i64 s.h) := h.box.grown hg (fun e => by have := (hrow b e).1; omega)
  have hn := h.own.tie hhi hg ho hat
  refine ⟨_, _, _, _, _, _, _, ⟨hbox.set1, (hn.set ⟨b, 1, none⟩ _ (Nat.lt_succ_self b)).base (Nat.le_refl _) (by simp)⟩, ?_⟩
  exact (Within.grown hg (fun q hq => ⟨by have := (hrow q hq).1; omega, (hrow q hq).2⟩)).trans (Within.set _ _ _ (Nat.le_refl _) h1)

end Go.Proofs.YtgajodcgedhikaaGreatDoor

namespace Go.Proofs.YtgajodcgedhikaaGreatDoor
open Go.RowKit
set_option linter.unusedVariables false
set_option linter.unusedSimpArgs false
/-- The least and the greatest of the first elements. -/
def minL (ts : List Int) : Nat → Int
  | 0 => ts[0]?.getD 0
  | j + 1 => if ts[j + 1]?.getD 0 < minL ts j then ts[j + 1]?.getD 0 else minL ts j
def maxL (ts : List Int) : Nat → Int
  | 0 => ts[0]?.getD 0
  | j + 1 => if maxL ts j < ts[j + 1]?.getD 0 then ts[j + 1]?.getD 0 else maxL ts j
theorem minL_iff (ts : List Int) (b : Int) : ∀ j, b ≤ minL ts j ↔ ∀ i, i ≤ j → b ≤ ts[i]?.getD 0
  | 0 => ⟨fun h i hi => by obtain rfl : i = 0 := by omega
                           exact h, fun h => h 0 (Nat.le_refl _)⟩
  | j + 1 => by
    have ih := minL_iff ts b j
    unfold minL
    constructor
    · intro h i hi
      have h1 : b ≤ minL ts j ∧ b ≤ ts[j + 1]?.getD 0 := by split at h <;> omega
      by_cases e : i = j + 1
      · subst e; exact h1.2
      · exact ih.1 h1.1 i (by omega)
    · intro h
      have h1 := ih.2 (fun i hi => h i (by omega))
      have h2 := h (j + 1) (Nat.le_refl _)
      split <;> omega
theorem maxL_iff (ts : List Int) (b : Int) : ∀ j, maxL ts j < b ↔ ∀ i, i ≤ j → ts[i]?.getD 0 < b
  | 0 => ⟨fun h i hi => by obtain rfl : i = 0 := by omega
                           exact h, fun h => h 0 (Nat.le_refl _)⟩
  | j + 1 => by
    have ih := maxL_iff ts b j
    unfold maxL
    constructor
    · intro h i hi
      have h1 : maxL ts j < b ∧ ts[j + 1]?.getD 0 < b := by split at h <;> omega
      by_cases e : i = j + 1
      · subst e; exact h1.2
      · exact ih.1 h1.1 i (by omega)
    · intro h
      have h1 := ih.2 (fun i hi => h i (by omega))
      have h2 := h (j + 1) (Nat.le_refl _)
      split <;> omega

theorem val_form {v : List Int} (hl : v.length = 3) : valR v = (decide (-1 ≤ minL v 2) && decide (maxL v 2 ≤ 1)) := by
  unfold valR
  rw [decide_eq_true hl, Bool.and_true, Bool.eq_iff_iff, List.all_eq_true, Bool.and_eq_true, decide_eq_true_eq, decide_eq_true_eq, minL_iff, show maxL v 2 ≤ 1 ↔ maxL v 2 < 2 from by omega, maxL_iff]
  constructor
  · intro h
    have h3 : ∀ i, i ≤ 2 → -1 ≤ v[i]?.getD 0 ∧ v[i]?.getD 0 ≤ 1 := by
      intro i hi
      have h4 := h (v[i]'(by omega)) (List.getElem_mem _)
      unfold valB at h4
      rw [Bool.and_eq_true, decide_eq_true_eq, decide_eq_true_eq] at h4
      rw [List.getElem?_eq_getElem (by omega)]
      exact h4
    exact ⟨fun i hi => (h3 i hi).1, fun i hi => by have := (h3 i hi).2; omega⟩
  · rintro ⟨h2, h3⟩ x hx
    obtain ⟨i, hi, rfl⟩ := List.getElem_of_mem hx
    have h4 := h2 i (by omega)
    have h5 := h3 i (by omega)
    rw [List.getElem?_eq_getElem hi, Option.getD_some] at h4 h5
    unfold valB
    rw [decide_eq_true h4, decide_eq_true (by omega)]; rfl

end Go.Proofs.YtgajodcgedhikaaGreatDoor

namespace Go.Proofs.YtgajodcgedhikaaGreatDoor
open Go.RowKit
set_option linter.unusedVariables false
set_option linter.unusedSimpArgs false

set_option maxRecDepth 100000 in
set_option maxHeartbeats 4000000 in
theorem lit_lw (x : Int) (w : World) : Calls Tryz.prog 95 #[.int .i64 x] w fun e w' => e = .returned (.bool (litB x)) ∧ w = w' := by
  by_cases h1 : -3 ≤ x
  · by_cases h2 : x ≤ 3
    · by_cases h3 : x = 0
      · have h4 : (x != 0) = false := by simp [h3]
        have HV := Lib.hid (show litB x = false from by unfold litB; rw [decide_eq_false (by omega)]; rfl)
        clear h3
        go_enter Tryz.func95, Tryz.ntmps95
        go_wp2_with fail
        go_ret
        exact ⟨ret_b HV.out.symm, rfl⟩
      · have h4 : (x != 0) = true := by simp [h3]
        have HV := Lib.hid (show litB x = true from by unfold litB; rw [decide_eq_true h3, decide_eq_true h1, decide_eq_true h2]; rfl)
        clear h3
        go_enter Tryz.func95, Tryz.ntmps95
        go_wp2_with fail
        go_ret
        exact ⟨ret_b HV.out.symm, rfl⟩
    · have HV := Lib.hid (show litB x = false from by unfold litB; rw [decide_eq_false h2, Bool.and_false, Bool.and_false])
      go_enter Tryz.func95, Tryz.ntmps95
      go_wp2_with fail
      go_ret
      exact ⟨ret_b HV.out.symm, rfl⟩
  · have HV := Lib.hid (show litB x = false from by unfold litB; rw [decide_eq_false h1, Bool.false_and, Bool.and_false])
    go_enter Tryz.func95, Tryz.ntmps95
    go_wp2_with fail
    go_ret
    exact ⟨ret_b HV.out.symm, rfl⟩

set_option maxRecDepth 100000 in
set_option maxHeartbeats 4000000 in
theorem prop_lw (x : Int) (h : -3 ≤ x ∧ x ≤ 3) (w : World) : Calls Tryz.prog 96 #[.int .i64 x] w fun e w' => e = .returned (.int .i64 (absI x)) ∧ w = w' := by
  rcases Int.lt_trichotomy x 0 with h0 | h0 | h0
  · have h1 : x < -x := by omega
    have h2 : ¬ (-x < x) := by omega
    have h3 : x ≤ -x := by omega
    go_enter Tryz.func96, Tryz.ntmps96
    go_wp2
    go_ret
    exact ⟨int_ans (by unfold absI; first | omega | (split <;> omega)), rfl⟩
  · subst h0
    go_enter Tryz.func96, Tryz.ntmps96
    go_wp2
    go_ret
    exact ⟨int_ans (by unfold absI; first | omega | (split <;> omega)), rfl⟩
  · have h1 : -x < x := by omega
    have h2 : ¬ (x < -x) := by omega
    have h3 : ¬ (x ≤ -x) := by omega
    go_enter Tryz.func96, Tryz.ntmps96
    go_wp2
    go_ret
    exact ⟨int_ans (by unfold absI; first | omega | (split <;> omega)), rfl⟩

/-- The proposition of the literal before. -/
def lastP (l : List Int) : Nat → Int
  | 0 => 0
  | j + 1 => absI (l[j]?.getD 0)
theorem lab_last {l : List Int} {j : Nat} {x : Int} (h : litB x = true) : labS l j x = decide (lastP l j < absI x) := by
  have hab := litB_abs h
  unfold labS
  rw [h, Bool.true_and]
  cases j with
  | zero => rw [decide_eq_true rfl, Bool.true_or]; show true = decide ((0 : Int) < absI x); rw [decide_eq_true (by omega)]
  | succ j => rw [decide_eq_false (by omega), Bool.false_or]; rfl
theorem lastP_next {l : List Int} {j : Nat} : lastP l (j + 1) = absI (l[j]?.getD 0) := rfl

set_option maxRecDepth 100000 in
set_option maxHeartbeats 4000000 in
theorem impl_LabelOkB (l : List Int) (A : Option Addr) (k c : Nat) (w : World) (hl : l.length = k) (hm : k ≤ 2097152) (hr : RowAt w A (l.map intV)) : Calls Tryz.prog 79 #[.slice A k c] w fun e w' => e = .returned (.bool (labR l)) ∧ w = w' := by
  have HR := Lib.hid hr
  have HL := Lib.hid hl
  clear hr hl
  go_enter Tryz.func79, Tryz.ntmps79
  go_wp2_with fail
  go_loopw [9, 3] (fun i s wr => ∃ (j : Nat) (z : Int), j ≤ k ∧ i = .int .i64 j ∧ s = .int .i64 z ∧ z = lastP l j ∧ labJ l j = true ∧ wr = w) (fun i _ _ => k - (intOf i).toNat)
  case atStart => exact ⟨0, 0, Nat.zero_le _, rfl, rfl, rfl, rfl, rfl⟩
  case round =>
    obtain ⟨j, z, hj, rfl, rfl, hz, hall, hw⟩ := hrel
    obtain rfl : w = wr := hw.symm
    have HA := Lib.hid hall
    have HZ := Lib.hid hz
    clear hall hw hz
    by_cases hlt : j < k
    · have hjl : ((j : Int) < (k : Int)) := by omega
      obtain ⟨g, o, rfl, hg, hc⟩ := row_getB HR.out (q := j) (by have := HL.out; omega)
      obtain ⟨x, hx⟩ : ∃ x, x = l[j]'(by have := HL.out; omega) := ⟨_, rfl⟩
      have hxd : l[j]?.getD 0 = x := by rw [hx, List.getElem?_eq_getElem (by have := HL.out; omega)]; rfl
      rw [← hx] at hc
      have HNO := Lib.hid (fun (h : labS l j x = false) => show labR l = false from by unfold labR; exact labJ_no (j := j + 1) (by rw [labJ_next, hxd, h, Bool.and_false]) (by have := HL.out; omega))
      have HYES := Lib.hid (fun (h : labS l j x = true) => show labJ l (j + 1) = true from by rw [labJ_next, hxd, h, HA.out]; rfl)
      have hla := lastP_next (l := l) (j := j)
      rw [hxd] at hla
      have h0 := lit_lw x
      obtain ⟨b, hb⟩ : ∃ b, b = litB x := ⟨_, rfl⟩
      rw [← hb] at h0
      have H0 := Lib.hid h0
      have HB := Lib.hid hb.symm
      have HLA := Lib.hid hla
      clear hx hxd h0 hb hla
      cases b with
      | false =>
        have HV := Lib.hid (HNO.out (by unfold labS; rw [HB.out, Bool.false_and]))
        go_wp2_with fail
        refine (H0.out _).mono ?_
        rintro e w2 ⟨rfl, rfl⟩
        go_wp2_with fail
        go_ret
        exact ⟨ret_b HV.out.symm, rfl⟩
      | true =>
        have hx3 : -3 ≤ x ∧ x ≤ 3 := by have := litB_of HB.out; omega
        have ha := lab_last (l := l) (j := j) HB.out
        rw [← HZ.out] at ha
        have hpx := prop_lw x hx3
        obtain ⟨r, hr⟩ : ∃ r, r = absI x := ⟨_, rfl⟩
        rw [← hr] at hpx ha
        have HPX := Lib.hid hpx
        have HAS := Lib.hid ha
        have HRX := Lib.hid hr
        clear hpx ha hr
        by_cases hpr : z < r
        · have hge : ¬ (r ≤ z) := by omega
          have HV := Lib.hid (HYES.out (by rw [HAS.out]; exact decide_eq_true hpr))
          go_wp2_with fail
          refine (H0.out _).mono ?_
          rintro e w2 ⟨rfl, hw2⟩
          subst hw2
          go_wp2_with fail
          refine (HPX.out _).mono ?_
          rintro e w3 ⟨rfl, hw3⟩
          subst hw3
          go_wp2_with fail
          refine (HPX.out _).mono ?_
          rintro e w4 ⟨rfl, hw4⟩
          subst hw4
          go_wp2_with fail
          go_roundw
          case rel => exact ⟨j + 1, r, by omega, by go_num, rfl, by rw [HLA.out]; exact HRX.out, HV.out, by first | rfl | trivial⟩
          case measure => simp [intOf]; omega
        · have hge : r ≤ z := by omega
          have HV := Lib.hid (HNO.out (by rw [HAS.out]; exact decide_eq_false hpr))
          go_wp2_with fail
          refine (H0.out _).mono ?_
          rintro e w2 ⟨rfl, hw2⟩
          subst hw2
          go_wp2_with fail
          refine (HPX.out _).mono ?_
          rintro e w3 ⟨rfl, hw3⟩
          subst hw3
          go_wp2_with fail
          go_ret
          exact ⟨ret_b HV.out.symm, rfl⟩
    · have hjl : ¬ ((j : Int) < (k : Int)) := by omega
      go_wp2_with fail
      go_ret
      exact ⟨ret_b (by unfold labR; have := HA.out; rw [show j = l.length from by have := HL.out; omega] at this; exact this.symm), rfl⟩

theorem impl_LabelOk0 (l : List Int) (A : Option Addr) (k c : Nat) (w : World) (hl : l.length = k) (hm : k ≤ 1048576) (hr : RowAt w A (l.map intV)) : Calls Tryz.prog 79 #[.slice A k c] w fun e w' => e = .returned (.bool (labR l)) ∧ w = w' := impl_LabelOkB l A k c w hl (by omega) hr

set_option maxRecDepth 100000 in
set_option maxHeartbeats 4000000 in
theorem index_lw (n : Int) (l : List Int) (A : Option Addr) (k c : Nat) (w : World) (hl : l.length = k) (hm : k ≤ 1048576) (hr : RowAt w A (l.map intV)) : Calls Tryz.prog 98 #[.slice A k c, .int .i64 n] w fun e w' => ∃ r : Int, e = .returned (.int .i64 r) ∧ decide (0 ≤ r) = hasR l n ∧ w = w' := by
  have HR := Lib.hid hr
  have HL := Lib.hid hl
  clear hr hl
  go_enter Tryz.func98, Tryz.ntmps98
  go_wp2_with fail
  go_loopw [8] (fun i wr => ∃ j : Nat, j ≤ k ∧ i = .int .i64 j ∧ (l.take j).any (fun x => decide (x = n)) = false ∧ wr = w) (fun i _ => k - (intOf i).toNat)
  case atStart => exact ⟨0, Nat.zero_le _, rfl, rfl, rfl⟩
  case round =>
    obtain ⟨j, hj, rfl, hall, hw⟩ := hrel
    obtain rfl : w = wr := hw.symm
    have HA := Lib.hid hall
    clear hall hw
    by_cases hlt : j < k
    · have hjl : ((j : Int) < (k : Int)) := by omega
      obtain ⟨g, o, rfl, hg, hc⟩ := row_getB HR.out (q := j) (by have := HL.out; omega)
      have HK1 := Lib.hid (anyH_take (l := l) (n := n) (j := j) (by have := HL.out; omega) HA.out)
      have HK2 := Lib.hid (hasR_at (l := l) (n := n) (j := j) (by have := HL.out; omega))
      obtain ⟨x, hx⟩ : ∃ x, x = l[j]'(by have := HL.out; omega) := ⟨_, rfl⟩
      rw [← hx] at hc HK1 HK2
      clear hx
      by_cases hxn : x = n
      · have hxb : (n == x) = true := by simp [hxn]
        have HV := Lib.hid (HK2.out hxn)
        clear hxn
        go_wp2_with fail
        go_ret
        exact ⟨_, rfl, by rw [HV.out]; exact decide_eq_true (by omega), rfl⟩
      · have hxb : (n == x) = false := by rw [beq_eq_false_iff_ne]; exact fun h => hxn h.symm
        have HV := Lib.hid (HK1.out hxn)
        clear hxn
        go_wp2_with fail
        go_roundw
        case rel => exact ⟨j + 1, by omega, by go_num, HV.out, by first | rfl | trivial⟩
        case measure => simp [intOf]; omega
    · have hjl : ¬ ((j : Int) < (k : Int)) := by omega
      have HV := Lib.hid (hasR_none (n := n) (by have := HA.out; rw [show j = l.length from by have := HL.out; omega] at this; exact this))
      go_wp2_with fail
      go_ret
      exact ⟨_, rfl, by rw [HV.out]; rfl, rfl⟩

set_option maxRecDepth 100000 in
set_option maxHeartbeats 4000000 in
theorem contains_lw (n : Int) (l : List Int) (A : Option Addr) (k c : Nat) (w : World) (hl : l.length = k) (hm : k ≤ 1048576) (hr : RowAt w A (l.map intV)) : Calls Tryz.prog 81 #[.slice A k c, .int .i64 n] w fun e w' => e = .returned (.bool (hasR l n)) ∧ w = w' := by
  have H0 := Lib.hid (index_lw n l A k c w hl hm hr)
  clear hl hr
  go_enter Tryz.func81, Tryz.ntmps81
  go_wp2_with fail
  refine H0.out.mono ?_
  rintro e w2 ⟨r, rfl, h, hw2⟩
  subst hw2
  have HH := Lib.hid h
  clear h
  by_cases h0 : 0 ≤ r
  · go_wp2_with fail
    go_ret
    exact ⟨ret_b (by first | exact HH.out | (rw [← HH.out]; exact (decide_eq_true (by omega)).symm)), rfl⟩
  · go_wp2_with fail
    go_ret
    exact ⟨ret_b (by first | exact HH.out | (rw [← HH.out]; exact (decide_eq_false (by omega)).symm)), rfl⟩

set_option maxRecDepth 100000 in
set_option maxHeartbeats 4000000 in
theorem has_lw (n : Int) (l : List Int) (A : Option Addr) (k c : Nat) (w : World) (hl : l.length = k) (hm : k ≤ 1048576) (hr : RowAt w A (l.map intV)) : Calls Tryz.prog 97 #[.int .i64 n, .slice A k c] w fun e w' => e = .returned (.bool (hasR l n)) ∧ w = w' := by
  have H0 := Lib.hid (contains_lw n l A k c w hl hm hr)
  clear hl hr
  go_enter Tryz.func97, Tryz.ntmps97
  go_wp2_with fail
  refine H0.out.mono ?_
  rintro e w2 ⟨rfl, hw2⟩
  subst hw2
  go_wp2_with fail
  go_ret
  exact ⟨rfl, rfl⟩

set_option maxRecDepth 100000 in
set_option maxHeartbeats 4000000 in
theorem impl_ImpliesLabel0 (a b : List Int) (A : Option Addr) (k c : Nat) (B : Option Addr) (m d : Nat) (w : World) (hl : a.length = k) (hm : k ≤ 1048576) (hlb : b.length = m) (hmb : m ≤ 1048576) (hr : RowAt w A (a.map intV)) (hrb : RowAt w B (b.map intV)) : Calls Tryz.prog 80 #[.slice A k c, .slice B m d] w fun e w' => e = .returned (.bool (impR a b)) ∧ w = w' := by
  have HOA := Lib.hid (impl_LabelOk0 a A k c w hl hm hr)
  have HOB := Lib.hid (impl_LabelOk0 b B m d w hlb hmb hrb)
  have HHA := Lib.hid (fun n => has_lw n a A k c w hl hm hr)
  have HR := Lib.hid hrb
  have HL := Lib.hid hlb
  clear hr hrb hl hlb
  obtain ⟨b1, hb1⟩ : ∃ x, x = labR a := ⟨_, rfl⟩
  obtain ⟨b2, hb2⟩ : ∃ x, x = labR b := ⟨_, rfl⟩
  rw [← hb1] at HOA
  rw [← hb2] at HOB
  have H1 := Lib.hid hb1.symm
  have H2 := Lib.hid hb2.symm
  clear hb1 hb2
  cases b1 with
  | false =>
    go_enter Tryz.func80, Tryz.ntmps80
    go_wp2_with fail
    refine HOA.out.mono ?_
    rintro e w1 ⟨rfl, rfl⟩
    go_wp2_with fail
    go_ret
    exact ⟨ret_b (by unfold impR; rw [H1.out]; rfl), rfl⟩
  | true =>
    cases b2 with
    | false =>
      go_enter Tryz.func80, Tryz.ntmps80
      go_wp2_with fail
      refine HOA.out.mono ?_
      rintro e w1 ⟨rfl, rfl⟩
      go_wp2_with fail
      refine HOB.out.mono ?_
      rintro e w1 ⟨rfl, rfl⟩
      go_wp2_with fail
      go_ret
      exact ⟨ret_b (by unfold impR; rw [H1.out, H2.out]; rfl), rfl⟩
    | true =>
      go_enter Tryz.func80, Tryz.ntmps80
      go_wp2_with fail
      refine HOA.out.mono ?_
      rintro e w1 ⟨rfl, hw1⟩
      subst hw1
      go_wp2_with fail
      refine HOB.out.mono ?_
      rintro e w1 ⟨rfl, hw1⟩
      subst hw1
      go_wp2_with fail
      go_loopw [17] (fun i wr => ∃ j : Nat, j ≤ m ∧ i = .int .i64 j ∧ (b.take j).all (hasR a) = true ∧ wr = w) (fun i _ => m - (intOf i).toNat)
      case atStart => exact ⟨0, Nat.zero_le _, rfl, rfl, rfl⟩
      case round =>
        obtain ⟨j, hj, rfl, hall, hw⟩ := hrel
        obtain rfl : w = wr := hw.symm
        have HA := Lib.hid hall
        clear hall hw
        by_cases hlt : j < m
        · have hjl : ((j : Int) < (m : Int)) := by omega
          obtain ⟨g, o, rfl, hg, hc⟩ := row_getB HR.out (q := j) (by have := HL.out; omega)
          have HK1 := Lib.hid (allI2_take_of a b j (by have := HL.out; omega) HA.out)
          have HK2 := Lib.hid (impR_not (a := a) (b := b) (k := j) (by have := HL.out; omega))
          obtain ⟨x, hx⟩ : ∃ x, x = b[j]'(by have := HL.out; omega) := ⟨_, rfl⟩
          rw [← hx] at hc HK1 HK2
          have hh := HHA.out x
          obtain ⟨t, ht⟩ : ∃ t, t = hasR a x := ⟨_, rfl⟩
          rw [← ht] at hh HK1 HK2
          have HH := Lib.hid hh
          clear hx ht hh
          cases t with
          | false =>
            go_wp2_with fail
            refine HH.out.mono ?_
            rintro e w1 ⟨rfl, rfl⟩
            go_wp2_with fail
            go_ret
            exact ⟨ret_b (HK2.out (by simp)).symm, rfl⟩
          | true =>
            go_wp2_with fail
            refine HH.out.mono ?_
            rintro e w1 ⟨rfl, hw1⟩
            subst hw1
            go_wp2_with fail
            go_roundw
            case rel => exact ⟨j + 1, by omega, by go_num, HK1.out (by simp), by first | rfl | trivial⟩
            case measure => simp [intOf]; omega
        · have hjl : ¬ ((j : Int) < (m : Int)) := by omega
          go_wp2_with fail
          go_ret
          exact ⟨ret_b (by unfold impR; rw [H1.out, H2.out]; have := HA.out; rw [List.take_of_length_le (by have := HL.out; omega)] at this; rw [this]; rfl), rfl⟩

theorem impl_LabelOk (l : List Int) (A : Option Addr) (k c : Nat) (w : World) (hl : l.length = k) (hm : k ≤ 1048576) (hr : RowAt w A (l.map intV)) : Calls Tryz.prog 79 #[.slice A k c] w fun e w' => e = .returned (.bool (labR l)) ∧ Below w.heap.size w w' :=
  (impl_LabelOk0 l A k c w hl hm hr).mono fun e w' ⟨h1, h2⟩ => ⟨h1, by subst h2; exact Below.refl _ _⟩

theorem impl_ImpliesLabel (a b : List Int) (A : Option Addr) (k c : Nat) (B : Option Addr) (m d : Nat) (w : World) (hl : a.length = k) (hm : k ≤ 1048576) (hlb : b.length = m) (hmb : m ≤ 1048576) (hr : RowAt w A (a.map intV)) (hrb : RowAt w B (b.map intV)) : Calls Tryz.prog 80 #[.slice A k c, .slice B m d] w fun e w' => e = .returned (.bool (impR a b)) ∧ Below w.heap.size w w' :=
  (impl_ImpliesLabel0 a b A k c B m d w hl hm hlb hmb hr hrb).mono fun e w' ⟨h1, h2⟩ => ⟨h1, by subst h2; exact Below.refl _ _⟩

end Go.Proofs.YtgajodcgedhikaaGreatDoor

namespace Go.Proofs.YtgajodcgedhikaaGreatDoor
open Go.RowKit Go.Maps
set_option linter.unusedVariables false
set_option linter.unusedSimpArgs false

abbrev DU := DataW Unit
def kS (s : ByteArray) : Lit := .string s.data.toList
def kI (x : Int) : Lit := .int .i64 x
def vI (x : Int) : DU := .lit (.int .i64 x)
theorem kS_ne {a b : ByteArray} (h : a ≠ b) : kS a ≠ kS b := by
  unfold kS
  intro e
  injection e with e
  exact h (by apply ByteArray.ext; apply Array.toList_inj.1; exact e)
theorem kI_ne {a b : Int} (h : a ≠ b) : kI a ≠ kI b := by
  unfold kI
  intro e
  injection e with _ e
  exact h e
theorem kI_same (a b : Int) : (kI a).sameKey (kI b) = decide (a = b) := by
  by_cases e : a = b
  · subst e; rw [WideAt.sameKey_self (by unfold kI; trivial)]; simp
  · rw [sameKey_ne (kI_ne e)]; simp [e]
/-- A found index or nothing. -/
def idxZ (x : Int) : Int := if 0 ≤ x then x else 0

/-! the names -/
def nmR : List GN → Nat → DU
  | [], _ => .map []
  | e :: l, j => (nmR l (j + 1)).put (kS e.name) (vI j)
theorem nmR_map : ∀ (l : List GN) (j : Nat), IsMap (nmR l j)
  | [], _ => isMap_empty
  | e :: l, j => (nmR_map l (j + 1)).put _ _
theorem nmR_has (s : ByteArray) : ∀ (l : List GN) (j : Nat), has (nmR l j) (kS s) = decide (0 ≤ firJ (fun e => decide (e.name = s)) l j)
  | [], _ => by simp [nmR, has, firJ]
  | e :: l, j => by
    unfold nmR firJ
    by_cases h : e.name = s
    · subst h
      rw [has_put_same (nmR_map l (j + 1)) (by unfold kS; trivial), if_pos (by simp)]
      simp
    · rw [has_put_other (kS_ne (fun e => h e.symm)), if_neg (by simpa using h), nmR_has s l (j + 1)]
theorem nmR_at (s : ByteArray) : ∀ (l : List GN) (j : Nat), (nmR l j).atKey (kS s) (vI 0) = vI (idxZ (firJ (fun e => decide (e.name = s)) l j))
  | [], _ => rfl
  | e :: l, j => by
    unfold nmR firJ
    by_cases h : e.name = s
    · subst h
      rw [atKey_put_same (nmR_map l (j + 1)) (by unfold kS; trivial), if_pos (by simp)]
      unfold idxZ
      rw [if_pos (by omega)]
    · rw [atKey_put_other (kS_ne (fun e => h e.symm)), if_neg (by simpa using h), nmR_at s l (j + 1)]
def nmD (xs : List (Nat × ByteArray)) : DU := xs.foldl (fun D p => D.put (kS p.2) (vI p.1)) (.map [])
theorem nmD_snoc (pre : List (Nat × ByteArray)) (x : Nat × ByteArray) : nmD (pre ++ [x]) = (nmD pre).put (kS x.2) (vI x.1) := by simp [nmD]
/-- The pairs of a list of nodes from an index on, backwards. -/
def bkN : List GN → Nat → List (Nat × ByteArray)
  | [], _ => []
  | e :: l, j => bkN l (j + 1) ++ [(j, e.name)]
theorem bkN_len : ∀ (l : List GN) (j : Nat), (bkN l j).length = l.length
  | [], _ => rfl
  | e :: l, j => by simp [bkN, bkN_len l (j + 1)]
theorem nmD_bk : ∀ (l : List GN) (j : Nat), nmD (bkN l j) = nmR l j
  | [], _ => rfl
  | e :: l, j => by
    unfold bkN nmR
    rw [nmD_snoc, nmD_bk l (j + 1)]

/-! the watchers -/
def waD (ns : List GN) : Nat → DU
  | 0 => .map []
  | j + 1 => if (ns[j]?.getD gN0).wat = 0 then waD ns j else (waD ns j).put (kI (ns[j]?.getD gN0).wat) (vI j)
def lasN (ns : List GN) (p : Int) : Nat → Int
  | 0 => -1
  | j + 1 => if (ns[j]?.getD gN0).wat = p then (j : Int) else lasN ns p j
theorem waD_map (ns : List GN) : ∀ j, IsMap (waD ns j)
  | 0 => isMap_empty
  | j + 1 => by
    unfold waD
    split
    · exact waD_map ns j
    · exact (waD_map ns j).put _ _
theorem waD_has0 (ns : List GN) : ∀ j, has (waD ns j) (kI 0) = false
  | 0 => by simp [waD, has]
  | j + 1 => by
    unfold waD
    split
    · exact waD_has0 ns j
    · rename_i h
      rw [has_put_other (kI_ne (fun e => h e.symm))]
      exact waD_has0 ns j
theorem waD_has (ns : List GN) {p : Int} (hp : p ≠ 0) : ∀ j, has (waD ns j) (kI p) = decide (0 ≤ lasN ns p j)
  | 0 => by simp [waD, has, lasN]
  | j + 1 => by
    unfold waD lasN
    by_cases h0 : (ns[j]?.getD gN0).wat = 0
    · rw [if_pos h0, if_neg (by rw [h0]; exact fun e => hp e.symm), waD_has ns hp j]
    · rw [if_neg h0]
      by_cases h : (ns[j]?.getD gN0).wat = p
      · rw [h, has_put_same (waD_map ns j) (by unfold kI; trivial), if_pos rfl]
        simp
      · rw [has_put_other (kI_ne (fun e => h e.symm)), if_neg h, waD_has ns hp j]
theorem waD_at (ns : List GN) {p : Int} (hp : p ≠ 0) : ∀ j, (waD ns j).atKey (kI p) (vI 0) = vI (idxZ (lasN ns p j))
  | 0 => rfl
  | j + 1 => by
    unfold waD lasN
    by_cases h0 : (ns[j]?.getD gN0).wat = 0
    · rw [if_pos h0, if_neg (by rw [h0]; exact fun e => hp e.symm), waD_at ns hp j]
    · rw [if_neg h0]
      by_cases h : (ns[j]?.getD gN0).wat = p
      · rw [h, atKey_put_same (waD_map ns j) (by unfold kI; trivial), if_pos rfl]
        unfold idxZ
        rw [if_pos (by omega)]
      · rw [atKey_put_other (kI_ne (fun e => h e.symm)), if_neg h, waD_at ns hp j]
theorem lasN_rng (ns : List GN) (p : Int) : ∀ j, lasN ns p j = -1 ∨ ∃ i, i < j ∧ lasN ns p j = (i : Int) ∧ (ns[i]?.getD gN0).wat = p
  | 0 => .inl rfl
  | j + 1 => by
    unfold lasN
    by_cases h : (ns[j]?.getD gN0).wat = p
    · rw [if_pos h]; exact .inr ⟨j, by omega, rfl, h⟩
    · rw [if_neg h]
      rcases lasN_rng ns p j with h1 | ⟨i, hi, h1, h2⟩
      · exact .inl h1
      · exact .inr ⟨i, by omega, h1, h2⟩
theorem lasN_none {ns : List GN} {p : Int} : ∀ {j : Nat}, lasN ns p j = -1 → ∀ i, i < j → (ns[i]?.getD gN0).wat ≠ p
  | 0, _, i, hi => by omega
  | j + 1, h, i, hi => by
    unfold lasN at h
    by_cases h2 : (ns[j]?.getD gN0).wat = p
    · rw [if_pos h2] at h; omega
    · rw [if_neg h2] at h
      by_cases e : i = j
      · subst e; exact h2
      · exact lasN_none h i (by omega)
/-- The last node that watches p. -/
def lasR (ns : List GN) (p : Int) : Int := if p = 0 then -1 else lasN ns p ns.length
theorem lasR_rng (ns : List GN) (p : Int) : lasR ns p = -1 ∨ ∃ i, i < ns.length ∧ lasR ns p = (i : Int) ∧ (ns[i]?.getD gN0).wat = p := by
  unfold lasR
  by_cases h : p = 0
  · rw [if_pos h]; exact .inl rfl
  · rw [if_neg h]; exact lasN_rng ns p _
theorem waR_has (ns : List GN) (p : Int) : has (waD ns ns.length) (kI p) = decide (0 ≤ lasR ns p) := by
  unfold lasR
  by_cases h : p = 0
  · rw [if_pos h, h, waD_has0]; simp
  · rw [if_neg h, waD_has ns h]
theorem waR_at (ns : List GN) (p : Int) : (waD ns ns.length).atKey (kI p) (vI 0) = vI (idxZ (lasR ns p)) := by
  unfold lasR
  by_cases h : p = 0
  · rw [if_pos h, h, atKey_of_not_has (waD_has0 ns _)]; rfl
  · rw [if_neg h, waD_at ns h]

/-! what is left of a label -/
def nw (x : Int) : Int := IntKind.i64.wrap (-x)
/-- The observation of p is one that a label of lab may rest on. -/
def psB (ns : List GN) (lab : List Int) (p : Int) : Bool :=
  decide (0 ≤ lasR ns p) && (impR lab (ns[(lasR ns p).toNat]?.getD gN0).lab && (!hasR (ns[(lasR ns p).toNat]?.getD gN0).lab p && !hasR (ns[(lasR ns p).toNat]?.getD gN0).lab (nw p)))
def obF (ns : List GN) (lab : List Int) (dn : Int → Bool) : List Int := lab.filter (fun x => !((dn x && psB ns lab x) || (dn (nw x) && psB ns lab (nw x))))
def obR (ns : List GN) (lab : List Int) : Bool := decide ((obF ns lab (fun _ => true)).length = 0)
theorem obF_len (ns : List GN) (lab : List Int) (dn : Int → Bool) : (obF ns lab dn).length ≤ lab.length := List.length_filter_le _ _
theorem obF_start (ns : List GN) (lab : List Int) : obF ns lab (fun p => !has (waD ns ns.length) (kI p)) = lab := by
  unfold obF
  rw [List.filter_eq_self]
  intro x _
  have h : ∀ p, ((!has (waD ns ns.length) (kI p)) && psB ns lab p) = false := by
    intro p
    rw [waR_has]
    unfold psB
    cases decide (0 ≤ lasR ns p) <;> simp
  rw [h, h]; rfl
theorem obF_end {ns : List GN} {lab : List Int} {dn : Int → Bool} (h : ∀ p, dn p = true) : obF ns lab dn = obF ns lab (fun _ => true) := by
  unfold obF
  congr 1
  funext x
  rw [h, h]
theorem nw_nw {x : Int} (h1 : -9223372036854775808 ≤ x) (h2 : x ≤ 9223372036854775807) : nw (nw x) = x := by
  unfold nw IntKind.wrap
  simp only [IntKind.bits, IntKind.signed, Bool.true_and, decide_eq_true_eq]
  repeat' split
  all_goals omega
theorem obF_pass {ns : List GN} {lab : List Int} {dn : Int → Bool} {p : Int} (hl : ∀ x ∈ lab, -9223372036854775808 ≤ x ∧ x ≤ 9223372036854775807) (hp1 : -9223372036854775808 ≤ p) (hp2 : p ≤ 9223372036854775807) (h : psB ns lab p = true) :
    obF ns lab (fun q => dn q || decide (q = p)) = woR (obF ns lab dn) p := by
  unfold obF woR
  rw [List.filter_filter]
  refine List.filter_congr (fun x hx => ?_)
  obtain ⟨h1, h2⟩ := hl x hx
  have e1 : (decide (nw x = p)) = decide (x = nw p) := by
    apply decide_eq_decide.2
    exact ⟨fun e => by rw [← e, nw_nw h1 h2], fun e => by rw [e, nw_nw hp1 hp2]⟩
  have e2 : IntKind.i64.wrap (-p) = nw p := rfl
  dsimp only
  rw [e1, e2]
  by_cases a : x = p
  · subst a; rw [h]; simp
  · by_cases b : x = nw p
    · have : nw x = p := by rw [b, nw_nw hp1 hp2]
      rw [this, h]; simp [b]
    · simp [a, b]
theorem obF_skip {ns : List GN} {lab : List Int} {dn : Int → Bool} {p : Int} (h : psB ns lab p = false) :
    obF ns lab (fun q => dn q || decide (q = p)) = obF ns lab dn := by
  unfold obF
  refine List.filter_congr (fun x hx => ?_)
  dsimp only
  have g : ∀ q, ((dn q || decide (q = p)) && psB ns lab q) = (dn q && psB ns lab q) := by
    intro q
    by_cases a : q = p
    · subst a; rw [h]; simp
    · simp [a]
  rw [g, g]

end Go.Proofs.YtgajodcgedhikaaGreatDoor

namespace Go.Proofs.YtgajodcgedhikaaGreatDoor
open Go.RowKit Go.Maps
set_option linter.unusedVariables false
set_option linter.unusedSimpArgs false

theorem firJ_none {T : Type} {f : T → Bool} : ∀ {l : List T} {i : Nat}, firJ f l i = -1 → ∀ x ∈ l, f x = false
  | [], _, _, x, hx => by simp at hx
  | y :: l, i, h, x, hx => by
    unfold firJ at h
    by_cases hy : f y = true
    · rw [if_pos hy] at h; omega
    · rw [if_neg hy] at h
      rcases List.mem_cons.1 hx with rfl | hx
      · simpa using hy
      · exact firJ_none h x hx
theorem allJ_mk {f : Nat → Bool} : ∀ {m : Nat}, (∀ j, j < m → f j = true) → allJ f m = true
  | 0, _ => rfl
  | m + 1, h => by
    unfold allJ
    rw [allJ_mk (fun j hj => h j (by omega)), h m (by omega)]; rfl
theorem allJ_iff {f : Nat → Bool} {m : Nat} : allJ f m = true ↔ ∀ j, j < m → f j = true := ⟨fun h j hj => allJ_of h hj, allJ_mk⟩
theorem getN (ns : List GN) {i : Nat} (h : i < ns.length) : ns[i]?.getD gN0 = ns[i] := by rw [List.getElem?_eq_getElem h]; rfl
theorem watR_rngW (ns : List GN) (p : Int) : watR ns p = -1 ∨ ∃ i, i < ns.length ∧ watR ns p = (i : Int) ∧ (ns[i]?.getD gN0).wat = p := by
  rcases fir_rng (fun e : GN => decide (e.wat = p)) ns with h | ⟨j, hj, h1, h2⟩
  · exact .inl h
  · exact .inr ⟨j, hj, h1, by rw [getN ns hj]; exact of_decide_eq_true h2⟩
theorem watR_none {ns : List GN} {p : Int} (h : watR ns p = -1) {i : Nat} (hi : i < ns.length) : (ns[i]?.getD gN0).wat ≠ p := by
  have := firJ_none (f := fun e : GN => decide (e.wat = p)) h ns[i] (List.getElem_mem hi)
  rw [getN ns hi]
  exact of_decide_eq_false this
theorem watR_all {ns : List GN} {p : Int} (h : ∀ i, i < ns.length → (ns[i]?.getD gN0).wat ≠ p) : watR ns p = -1 :=
  firJ_all fun x hx => by
    obtain ⟨i, hi, rfl⟩ := List.getElem_of_mem hx
    have := h i hi
    rw [getN ns hi] at this
    exact decide_eq_false this
theorem lasR_none {ns : List GN} {p : Int} (hp : p ≠ 0) (h : lasR ns p = -1) {i : Nat} (hi : i < ns.length) : (ns[i]?.getD gN0).wat ≠ p := by
  unfold lasR at h
  rw [if_neg hp] at h
  exact lasN_none h i hi
theorem las_wat {ns : List GN} (h : ∀ i, i < ns.length → (ns[i]?.getD gN0).wat ≠ 0 → lasR ns (ns[i]?.getD gN0).wat = i) {p : Int} (hp : p ≠ 0) : lasR ns p = watR ns p := by
  rcases watR_rngW ns p with h1 | ⟨i, hi, h1, h2⟩
  · rcases lasR_rng ns p with h3 | ⟨i, hi, h3, h4⟩
    · rw [h1, h3]
    · exact absurd h4 (watR_none h1 hi)
  · rw [h1, ← h2]; exact h i hi (by rw [h2]; exact hp)
theorem wat_las {ns : List GN} (h : ∀ i, i < ns.length → (ns[i]?.getD gN0).wat ≠ 0 → watR ns (ns[i]?.getD gN0).wat = i) {p : Int} (hp : p ≠ 0) : lasR ns p = watR ns p := by
  rcases lasR_rng ns p with h1 | ⟨i, hi, h1, h2⟩
  · rw [h1, watR_all (fun i hi => lasR_none hp h1 hi)]
  · rw [h1, ← h2]; exact (h i hi (by rw [h2]; exact hp)).symm

/-- As the program checks a node. -/
def ndA2 (ns : List GN) (i : Nat) : Bool := nodB (ns[i]?.getD gN0) && (decide (namR ns (ns[i]?.getD gN0).name = i) && (decide ((ns[i]?.getD gN0).wat = 0) || decide (lasR ns (ns[i]?.getD gN0).wat = i)))
def ndC (ns : List GN) (i : Nat) : Bool := ndA2 ns i && obR ns (ns[i]?.getD gN0).lab
def ndP (ns : List GN) : Bool := ndH ns && allJ (ndC ns) ns.length
theorem ndA_same {ns : List GN} : (∀ i, i < ns.length → ndA2 ns i = true) ↔ ∀ i, i < ns.length → ndA ns i = true := by
  constructor
  · intro h i hi
    have hl : ∀ i, i < ns.length → (ns[i]?.getD gN0).wat ≠ 0 → lasR ns (ns[i]?.getD gN0).wat = i := by
      intro j hj h0
      have := h j hj
      unfold ndA2 at this
      simp only [Bool.and_eq_true, Bool.or_eq_true, decide_eq_true_eq] at this
      rcases this.2.2 with h1 | h1
      · exact absurd h1 h0
      · exact h1
    have := h i hi
    unfold ndA2 at this
    unfold ndA
    by_cases h0 : (ns[i]?.getD gN0).wat = 0
    · rw [decide_eq_true h0, Bool.true_or] at this ⊢; exact this
    · rw [← las_wat hl h0]; exact this
  · intro h i hi
    have hl : ∀ i, i < ns.length → (ns[i]?.getD gN0).wat ≠ 0 → watR ns (ns[i]?.getD gN0).wat = i := by
      intro j hj h0
      have := h j hj
      unfold ndA at this
      simp only [Bool.and_eq_true, Bool.or_eq_true, decide_eq_true_eq] at this
      rcases this.2.2 with h1 | h1
      · exact absurd h1 h0
      · exact h1
    have := h i hi
    unfold ndA at this
    unfold ndA2
    by_cases h0 : (ns[i]?.getD gN0).wat = 0
    · rw [decide_eq_true h0, Bool.true_or] at this ⊢; exact this
    · rw [wat_las hl h0]; exact this
theorem ndA_parts {ns : List GN} (h : ∀ i, i < ns.length → ndA ns i = true) : (∀ i, i < ns.length → nodB (ns[i]?.getD gN0) = true) ∧ ∀ p, p ≠ 0 → lasR ns p = watR ns p := by
  refine ⟨fun i hi => ?_, fun p hp => wat_las (fun j hj h0 => ?_) hp⟩
  · have := h i hi
    unfold ndA at this
    rw [Bool.and_eq_true] at this
    exact this.1
  · have := h j hj
    unfold ndA at this
    simp only [Bool.and_eq_true, Bool.or_eq_true, decide_eq_true_eq] at this
    rcases this.2.2 with h1 | h1
    · exact absurd h1 h0
    · exact h1
theorem nodB_wat {e : GN} (h : nodB e = true) : labR e.lab = true ∧ 0 ≤ e.wat ∧ e.wat ≤ 3 := by
  unfold nodB at h
  simp only [Bool.and_eq_true, decide_eq_true_eq] at h
  exact ⟨h.2.1, h.2.2.1, h.2.2.2⟩
theorem nw_small {x : Int} (h1 : -3 ≤ x) (h2 : x ≤ 3) : nw x = -x := by
  unfold nw
  exact (IntWalk.i64_left _).trans (by unfold wrap64; omega)
theorem ps_nd {ns : List GN} (h : ∀ i, i < ns.length → ndA ns i = true) {lab : List Int} {x : Int} (hx : litB x = true) : (psB ns lab x || psB ns lab (nw x)) = ndX ns lab x := by
  obtain ⟨hok, hlw⟩ := ndA_parts h
  obtain ⟨x0, x1, x2⟩ := litB_of hx
  have hneg : ∀ p : Int, p < 0 → lasR ns p = -1 := by
    intro p hp
    rcases lasR_rng ns p with h1 | ⟨i, hi, _, h2⟩
    · exact h1
    · have := (nodB_wat (hok i hi)).2.1
      omega
  by_cases hp : x < 0
  · have a : absI x = -x := by unfold absI; rw [if_pos hp]
    have f : psB ns lab x = false := by unfold psB; rw [hneg x hp]; rfl
    rw [f, Bool.false_or, nw_small x1 x2]
    unfold psB ndX
    rw [a, hlw (-x) (by omega), nw_small (by omega) (by omega), show - -x = x from by omega]
    cases decide (0 ≤ watR ns (-x)) <;> cases hasR (ns[(watR ns (-x)).toNat]?.getD gN0).lab x <;> cases hasR (ns[(watR ns (-x)).toNat]?.getD gN0).lab (-x) <;> cases impR lab (ns[(watR ns (-x)).toNat]?.getD gN0).lab <;> rfl
  · have a : absI x = x := by unfold absI; rw [if_neg hp]
    have f : psB ns lab (nw x) = false := by rw [nw_small x1 x2]; unfold psB; rw [hneg (-x) (by omega)]; rfl
    rw [f, Bool.or_false]
    unfold psB ndX
    rw [a, hlw x x0, nw_small x1 x2]
    cases decide (0 ≤ watR ns x) <;> cases hasR (ns[(watR ns x).toNat]?.getD gN0).lab x <;> cases hasR (ns[(watR ns x).toNat]?.getD gN0).lab (-x) <;> cases impR lab (ns[(watR ns x).toNat]?.getD gN0).lab <;> rfl
theorem obR_iff {ns : List GN} {lab : List Int} : obR ns lab = true ↔ ∀ x ∈ lab, (psB ns lab x || psB ns lab (nw x)) = true := by
  unfold obR obF
  rw [decide_eq_true_eq, List.length_eq_zero_iff, List.filter_eq_nil_iff]
  refine forall_congr' fun x => forall_congr' fun hx => ?_
  rw [Bool.true_and, Bool.true_and]
  cases (psB ns lab x || psB ns lab (nw x)) <;> simp
theorem ndB_iff {ns : List GN} {i : Nat} : ndB ns i = true ↔ ∀ x ∈ (ns[i]?.getD gN0).lab, ndX ns (ns[i]?.getD gN0).lab x = true := by
  unfold ndB
  rw [allJ_iff]
  constructor
  · intro h x hx
    obtain ⟨j, hj, rfl⟩ := List.getElem_of_mem hx
    have := h j hj
    rwa [List.getElem?_eq_getElem hj] at this
  · intro h j hj
    have := h _ (List.getElem_mem hj)
    rw [List.getElem?_eq_getElem hj]
    exact this
theorem ob_nd {ns : List GN} (h : ∀ i, i < ns.length → ndA ns i = true) {i : Nat} (hi : i < ns.length) : obR ns (ns[i]?.getD gN0).lab = true ↔ ndB ns i = true := by
  rw [obR_iff, ndB_iff]
  have hl := (nodB_wat ((ndA_parts h).1 i hi)).1
  constructor
  · intro g x hx
    rw [← ps_nd h (labR_lit hl hx)]; exact g x hx
  · intro g x hx
    rw [ps_nd h (labR_lit hl hx)]; exact g x hx
theorem ndP_eq (ns : List GN) : ndP ns = ndsR ns := by
  rw [Bool.eq_iff_iff]
  unfold ndP ndsR
  simp only [Bool.and_eq_true, allJ_iff]
  constructor
  · rintro ⟨h1, h2⟩
    have ha : ∀ i, i < ns.length → ndA2 ns i = true := fun i hi => by have := h2 i hi; unfold ndC at this; rw [Bool.and_eq_true] at this; exact this.1
    have hb := ndA_same.1 ha
    exact ⟨h1, hb, fun i hi => (ob_nd hb hi).1 (by have := h2 i hi; unfold ndC at this; rw [Bool.and_eq_true] at this; exact this.2)⟩
  · rintro ⟨h1, h2, h3⟩
    exact ⟨h1, fun i hi => by unfold ndC; rw [Bool.and_eq_true]; exact ⟨ndA_same.2 h2 i hi, (ob_nd h2 hi).2 (h3 i hi)⟩⟩

end Go.Proofs.YtgajodcgedhikaaGreatDoor
