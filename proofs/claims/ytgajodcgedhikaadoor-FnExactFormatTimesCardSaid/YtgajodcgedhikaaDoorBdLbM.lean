/-
  PLAIN: the mathematics of FnLabels: the labels that are drawn (27 of them), their states under the eight full values, and what joining does to them.
  PLAIN: what is written of a label that is drawn is read again.
  PLAIN: what the program reads of a label's text.
  PLAIN: what is written of a valid show is read again.
  WALKS of spec.NodeOk, l08Same, l08Watcher, NodeNamed, l08Free.
  A REGION THAT DRAWS ITS ORDER, WHOSE OPERATIONS YIELD ONE VALUE IN EVERY WORLD OF A CLASS AND LEAVE A WORLD OF THE CLASS: one lexical walk, at any class.
-/
import Derived.Test.YtgajodcgedhikaaDoorBdShE
import Derived.Test.YtgajodcgedhikaaDoorBdConv
import Derived.Test.YtgajodcgedhikaaDoorBdDig
import Derived.Test.YtgajodcgedhikaaDoorProg
import Derived.Deep.QuietTactic
import Derived.BigQuiet
namespace Go.Proofs.YtgajodcgedhikaaDoor
open Go.RowKit
set_option linter.unusedVariables false

/-- What a draw adds for proposition p. -/
def optL (s : Nat) (p : Int) : List Int := match s with
  | 0 => [p]
  | 1 => [-p]
  | _ => []
/-- The label of three draws. -/
def drL (s t u : Nat) : List Int := optL s 1 ++ optL t 2 ++ optL u 3
/-- The values that the number n names, bit by bit. -/
def bitV (n : Nat) : Int := if n % 2 = 1 then -1 else 1
def vsN (n : Nat) : List Int := [bitV n, bitV (n / 2), bitV (n / 4)]
def all3 (p : Nat → Bool) : Bool := p 0 && p 1 && p 2
theorem all3_of {p : Nat → Bool} (h : all3 p = true) {s : Nat} (hs : s ≤ 2) : p s = true := by
  unfold all3 at h
  rw [Bool.and_eq_true, Bool.and_eq_true] at h
  obtain e | e | e : s = 0 ∨ s = 1 ∨ s = 2 := by omega
  · rw [e]; exact h.1.1
  · rw [e]; exact h.1.2
  · rw [e]; exact h.2
def all8 (p : Nat → Bool) : Bool := p 0 && p 1 && p 2 && p 3 && p 4 && p 5 && p 6 && p 7
theorem all8_of {p : Nat → Bool} (h : all8 p = true) {n : Nat} (hn : n < 8) : p n = true := by
  unfold all8 at h
  simp only [Bool.and_eq_true] at h
  obtain ⟨⟨⟨⟨⟨⟨⟨h0, h1⟩, h2⟩, h3⟩, h4⟩, h5⟩, h6⟩, h7⟩ := h
  obtain e | e | e | e | e | e | e | e : n = 0 ∨ n = 1 ∨ n = 2 ∨ n = 3 ∨ n = 4 ∨ n = 5 ∨ n = 6 ∨ n = 7 := by omega
  all_goals (rw [e]; assumption)
theorem drL_lab {s t u : Nat} (hs : s ≤ 2) (ht : t ≤ 2) (hu : u ≤ 2) : labR (drL s t u) = true := by
  have h : all3 (fun s => all3 fun t => all3 fun u => labR (drL s t u)) = true := by decide
  exact all3_of (all3_of (all3_of h hs) ht) hu
theorem drL_imp {s t u : Nat} (hs : s ≤ 2) (ht : t ≤ 2) (hu : u ≤ 2) : impR (drL s t u) (drL s t u) = true := by
  have h : all3 (fun s => all3 fun t => all3 fun u => impR (drL s t u) (drL s t u)) = true := by decide
  exact all3_of (all3_of (all3_of h hs) ht) hu
/-- Under full values both labels hold exactly if they can be joined and what they join to holds. -/
def bothB (a b v : List Int) : Bool := (decide (stR a v = 1) && decide (stR b v = 1)) == ((jnR a b).2 && decide (stR (jnR a b).1 v = 1))
def bothS (s : Nat) : Bool := all3 fun t => all3 fun u => all3 fun s' => all3 fun t' => all3 fun u' => all8 fun n => bothB (drL s t u) (drL s' t' u') (vsN n)
set_option maxRecDepth 100000 in
set_option maxHeartbeats 16000000 in
theorem both0 : bothS 0 = true := by decide +kernel
set_option maxRecDepth 100000 in
set_option maxHeartbeats 16000000 in
theorem both1 : bothS 1 = true := by decide +kernel
set_option maxRecDepth 100000 in
set_option maxHeartbeats 16000000 in
theorem both2 : bothS 2 = true := by decide +kernel
theorem drL_both {s t u s' t' u' n : Nat} (hs : s ≤ 2) (ht : t ≤ 2) (hu : u ≤ 2) (hs' : s' ≤ 2) (ht' : t' ≤ 2) (hu' : u' ≤ 2) (hn : n < 8) :
    (decide (stR (drL s t u) (vsN n) = 1) && decide (stR (drL s' t' u') (vsN n) = 1)) = ((jnR (drL s t u) (drL s' t' u')).2 && decide (stR (jnR (drL s t u) (drL s' t' u')).1 (vsN n) = 1)) := by
  have h : all3 bothS = true := by
    unfold all3
    rw [both0, both1, both2]; rfl
  have h1 := all8_of (all3_of (all3_of (all3_of (all3_of (all3_of (all3_of h hs) ht) hu) hs') ht') hu') hn
  unfold bothB at h1
  exact eq_of_beq h1
theorem vsN_val {n : Nat} (hn : n < 8) : valR (vsN n) = true := by
  have h : all8 (fun n => valR (vsN n)) = true := by decide
  exact all8_of h hn
theorem vsN_cz {n : Nat} (hn : n < 8) : czR (vsN n) = 0 := by
  have h : all8 (fun n => decide (czR (vsN n) = 0)) = true := by decide
  have := all8_of h hn
  exact of_decide_eq_true this
theorem nil_state : stR [] [0, 0, 0] = 1 := by decide
theorem wo_all (l : List Int) (p : Int) : (woR l p).length ≤ l.length := by
  have h := wo_len l p l.length
  rwa [List.take_of_length_le (Nat.le_refl _)] at h

end Go.Proofs.YtgajodcgedhikaaDoor

namespace Go.Proofs.YtgajodcgedhikaaDoor
open Go.RowKit
set_option linter.unusedVariables false
def readB3 (s : Nat) : Bool := all3 fun t => all3 fun u => decide (parL (fmtL (drL s t u)) = (drL s t u, true))
set_option maxRecDepth 100000 in
set_option maxHeartbeats 16000000 in
theorem read0 : readB3 0 = true := by decide +kernel
set_option maxRecDepth 100000 in
set_option maxHeartbeats 16000000 in
theorem read1 : readB3 1 = true := by decide +kernel
set_option maxRecDepth 100000 in
set_option maxHeartbeats 16000000 in
theorem read2 : readB3 2 = true := by decide +kernel
theorem drL_read {s t u : Nat} (hs : s ≤ 2) (ht : t ≤ 2) (hu : u ≤ 2) : parL (fmtL (drL s t u)) = (drL s t u, true) := by
  have h : all3 readB3 = true := by
    unfold all3
    rw [read0, read1, read2]; rfl
  have h1 := all3_of (all3_of (all3_of h hs) ht) hu
  exact of_decide_eq_true h1
theorem drL_size {s t u : Nat} (hs : s ≤ 2) (ht : t ≤ 2) (hu : u ≤ 2) : (fmtL (drL s t u)).size ≤ 11 := by
  have h : all3 (fun s => all3 fun t => all3 fun u => decide ((fmtL (drL s t u)).size ≤ 11)) = true := by decide +kernel
  have h1 := all3_of (all3_of (all3_of h hs) ht) hu
  exact of_decide_eq_true h1

end Go.Proofs.YtgajodcgedhikaaDoor

namespace Go.Proofs.YtgajodcgedhikaaDoor
open Go.RowKit
set_option linter.unusedVariables false
set_option linter.unusedSimpArgs false

/-- Does s begin with p? -/
def hpB (s p : ByteArray) : Bool := decide (p.size ≤ s.size) && ((s.extract 0 p.size).data.toList == p.data.toList)
/-- s without p at its beginning. -/
def cutB (s p : ByteArray) : ByteArray := if hpB s p then s.extract p.size s.size else s
/-- The literal that the program reads of a word. -/
def litP (t : ByteArray) : Int := if hpB t ⟨#[33]⟩ then IntKind.i64.wrap (-((parseOf (cutB (cutB t ⟨#[33]⟩) ⟨#[112]⟩)).getD 0)) else (parseOf (cutB (cutB t ⟨#[33]⟩) ⟨#[112]⟩)).getD 0
def lwW (s : ByteArray) : List Int := (split s ⟨#[38]⟩).map litP
/-- The label that the program reads of a text. -/
def lwL (s : ByteArray) : List Int × Bool := if s = ⟨#[45]⟩ then ([], true) else if labR (lwW s) = true ∧ fmtL (lwW s) = s then (lwW s, true) else ([], false)
def R7 : List Int := [-3, -2, -1, 0, 1, 2, 3]
theorem mem7 {x : Int} (h : litB x = true) : x ∈ R7 := by
  have := litB_of h
  simp [R7]; omega
def fndR (l : List Int) : Bool := [0, 1, 2].any fun s => [0, 1, 2].any fun t => [0, 1, 2].any fun u => decide (l = drL s t u)
theorem fnd_of {l : List Int} (h : fndR l = true) : ∃ s t u, s ≤ 2 ∧ t ≤ 2 ∧ u ≤ 2 ∧ l = drL s t u := by
  unfold fndR at h
  rw [List.any_eq_true] at h
  obtain ⟨s, hs, h⟩ := h
  rw [List.any_eq_true] at h
  obtain ⟨t, ht, h⟩ := h
  rw [List.any_eq_true] at h
  obtain ⟨u, hu, h⟩ := h
  refine ⟨s, t, u, ?_, ?_, ?_, of_decide_eq_true h⟩
  · simp at hs; omega
  · simp at ht; omega
  · simp at hu; omega
theorem fnd0 : fndR [] = true := by decide +kernel
theorem fnd1 : (R7.all fun x => !(labR [x]) || fndR [x]) = true := by decide +kernel
theorem fnd2 : (R7.all fun x => R7.all fun y => !(labR [x, y]) || fndR [x, y]) = true := by decide +kernel
theorem fnd3 : (R7.all fun x => R7.all fun y => R7.all fun z => !(labR [x, y, z]) || fndR [x, y, z]) = true := by decide +kernel
theorem dr_of {l : List Int} (h : labR l = true) : ∃ s t u, s ≤ 2 ∧ t ≤ 2 ∧ u ≤ 2 ∧ l = drL s t u := by
  apply fnd_of
  have hlen := labR_len h
  match l, h, hlen with
  | [], _, _ => exact fnd0
  | [x], h, _ =>
    have hx := mem7 (labR_lit h (x := x) (by simp))
    have h1 := List.all_eq_true.1 fnd1 x hx
    rw [h] at h1; simpa using h1
  | [x, y], h, _ =>
    have hx := mem7 (labR_lit h (x := x) (by simp))
    have hy := mem7 (labR_lit h (x := y) (by simp))
    have h1 := List.all_eq_true.1 (List.all_eq_true.1 fnd2 x hx) y hy
    rw [h] at h1; simpa using h1
  | [x, y, z], h, _ =>
    have hx := mem7 (labR_lit h (x := x) (by simp))
    have hy := mem7 (labR_lit h (x := y) (by simp))
    have hz := mem7 (labR_lit h (x := z) (by simp))
    have h1 := List.all_eq_true.1 (List.all_eq_true.1 (List.all_eq_true.1 fnd3 x hx) y hy) z hz
    rw [h] at h1; simpa using h1
  | _ :: _ :: _ :: _ :: _, _, h => exact absurd h (by simp)
def readP (s : Nat) : Bool := all3 fun t => all3 fun u => decide (drL s t u = [] ∨ lwW (fmtL (drL s t u)) = drL s t u)
set_option maxRecDepth 100000 in
set_option maxHeartbeats 16000000 in
theorem readP0 : readP 0 = true := by decide +kernel
set_option maxRecDepth 100000 in
set_option maxHeartbeats 16000000 in
theorem readP1 : readP 1 = true := by decide +kernel
set_option maxRecDepth 100000 in
set_option maxHeartbeats 16000000 in
theorem readP2 : readP 2 = true := by decide +kernel
theorem drL_readP {s t u : Nat} (hs : s ≤ 2) (ht : t ≤ 2) (hu : u ≤ 2) : drL s t u = [] ∨ lwW (fmtL (drL s t u)) = drL s t u := by
  have h : all3 readP = true := by
    unfold all3
    rw [readP0, readP1, readP2]; rfl
  have h1 := all3_of (all3_of (all3_of h hs) ht) hu
  exact of_decide_eq_true h1
theorem parL_cases {s : ByteArray} (hd : ¬ s = ⟨#[45]⟩) : parL s = ([], false) ∨ ∃ o, labR o = true ∧ fmtL o = s ∧ parL s = (o, true) := by
  unfold parL
  rw [if_neg hd]
  split
  · next o ho =>
    by_cases h : labR o = true ∧ fmtL o = s
    · rw [if_pos h]; exact .inr ⟨o, h.1, h.2, rfl⟩
    · rw [if_neg h]; exact .inl rfl
  · exact .inl rfl
theorem lw_par (s : ByteArray) : lwL s = parL s := by
  by_cases hd : s = ⟨#[45]⟩
  · unfold lwL parL; rw [if_pos hd, if_pos hd]
  · by_cases h : labR (lwW s) = true ∧ fmtL (lwW s) = s
    · have h2 : lwL s = (lwW s, true) := by unfold lwL; rw [if_neg hd, if_pos h]
      rw [h2]
      obtain ⟨a, b, c, ha, hb, hc, e⟩ := dr_of h.1
      have hr := drL_read ha hb hc
      rw [← e, h.2] at hr
      exact hr.symm
    · have h2 : lwL s = ([], false) := by unfold lwL; rw [if_neg hd, if_neg h]
      rw [h2]
      rcases parL_cases hd with h3 | ⟨o, h3, h4, h5⟩
      · exact h3.symm
      · exfalso
        obtain ⟨a, b, c, ha, hb, hc, e⟩ := dr_of h3
        rcases drL_readP ha hb hc with h6 | h6
        · rw [← e] at h6
          apply hd
          rw [← h4, h6]; rfl
        · rw [← e, h4] at h6
          exact h ⟨by rw [h6]; exact h3, by rw [h6]; exact h4⟩

end Go.Proofs.YtgajodcgedhikaaDoor

namespace Go.Proofs.YtgajodcgedhikaaDoor
open Go.RowKit
set_option linter.unusedVariables false
set_option linter.unusedSimpArgs false

def freeB (c : UInt8) (s : ByteArray) : Prop := ∀ x ∈ s.data.toList, x ≠ c
theorem nameGo_char : ∀ {l : List UInt8} {i : Nat}, nameGo i l = true → ∀ x ∈ l, isLet x = true ∨ isDig x = true
  | [], _, _, x, hx => by simp at hx
  | c :: l, i, h, x, hx => by
    unfold nameGo at h
    have h2 : nameAt i c = true ∧ nameGo (i + 1) l = true := by simpa [nameAt] using h
    rcases List.mem_cons.1 hx with rfl | hx
    · have := h2.1
      unfold nameAt at this
      rw [Bool.or_eq_true, Bool.and_eq_true] at this
      rcases this with h3 | h3
      · exact .inl h3
      · exact .inr h3.2
    · exact nameGo_char h2.2 x hx
theorem name_free {s : ByteArray} (h : nameB s.data.toList = true) {c : UInt8} (hc : c.toNat < 48) : freeB c s := by
  intro x hx e
  subst e
  unfold nameB at h
  rw [Bool.and_eq_true] at h
  rcases nameGo_char h.2 x hx with h1 | h1
  · unfold isLet at h1; simp at h1; omega
  · unfold isDig at h1; simp at h1; omega
theorem num_free (n : Int) {c : UInt8} (hc : c.toNat < 45) : freeB c (numB n) := by
  intro x hx e
  subst e
  have hx2 : x ∈ Lib.itoa n := hx
  unfold Lib.itoa at hx2
  split at hx2
  · rcases List.mem_cons.1 hx2 with h | h
    · rw [h] at hc; simp at hc
    · have := (dec_digits _ x h).1; omega
  · have := (dec_digits _ x hx2).1; omega
def frL (s : Nat) : Bool := all3 fun t => all3 fun u => (fmtL (drL s t u)).data.toList.all fun x => decide (x ≠ 32) && decide (x ≠ 10)
set_option maxRecDepth 100000 in
set_option maxHeartbeats 16000000 in
theorem frL_all : all3 frL = true := by decide +kernel
theorem fmt_free {l : List Int} (h : labR l = true) {c : UInt8} (hc : c = 32 ∨ c = 10) : freeB c (fmtL l) := by
  obtain ⟨s, t, u, hs, ht, hu, rfl⟩ := dr_of h
  have h1 := all3_of (all3_of (all3_of frL_all hs) ht) hu
  intro x hx
  have h2 := List.all_eq_true.1 h1 x hx
  rw [Bool.and_eq_true, decide_eq_true_eq, decide_eq_true_eq] at h2
  rcases hc with rfl | rfl
  · exact h2.1
  · exact h2.2
/-- A line is split into the words that it is put together of. -/
theorem split_words {s x : ByteArray} {ws : List ByteArray} (h : s.data.toList = catL 32 (ws.map (·.data.toList)) ++ x.data.toList) (hw : ∀ w ∈ ws, freeB 32 w) (hx : freeB 32 x) : split s bSp = ws ++ [x] := by
  apply split_of
  rw [h, spF_append, spF_cat (by
    intro w hw2 y hy
    obtain ⟨v, hv, rfl⟩ := List.mem_map.1 hw2
    exact hw v hv y hy), spF_free hx]
  rfl
theorem cat_snoc (c : UInt8) (ws : List BL) (w : BL) : catL c (ws ++ [w]) = catL c ws ++ (w ++ [c]) := by simp [catL]
theorem lines_cat {s : ByteArray} {ws : List ByteArray} (h : s.data.toList = catL 10 (ws.map (·.data.toList))) (hw : ∀ w ∈ ws, freeB 10 w) : lines s = ws := by
  apply lines_of
  rw [h, spF_cat (by
    intro w hw2 y hy
    obtain ⟨v, hv, rfl⟩ := List.mem_map.1 hw2
    exact hw v hv y hy)]
  rfl

def bHor : ByteArray := ⟨#[104, 111, 114, 105, 122, 111, 110]⟩
def bNode : ByteArray := ⟨#[110, 111, 100, 101]⟩
def bWatch : ByteArray := ⟨#[119, 97, 116, 99, 104]⟩
def bTie : ByteArray := ⟨#[116, 105, 101]⟩
def bFree : ByteArray := ⟨#[102, 114, 101, 101]⟩
/-- The lines of a show's text, each without its newline. -/
def horL (h : Int) : ByteArray := (⟨#[104, 111, 114, 105, 122, 111, 110, 32]⟩ : ByteArray) ++ numB h
def nodL (e : GN) : ByteArray := if e.wat = 0 then ((⟨#[110, 111, 100, 101, 32]⟩ ++ e.name) ++ bSp) ++ fmtL e.lab else ((((⟨#[110, 111, 100, 101, 32]⟩ ++ e.name) ++ bSp) ++ fmtL e.lab) ++ ⟨#[32, 119, 97, 116, 99, 104, 32]⟩) ++ numB e.wat
theorem nodS_eq (out : ByteArray) (e : GN) : nodS out e = (out ++ nodL e) ++ bNl := by
  unfold nodS nodL
  split <;> (apply bytes_inj; simp [List.append_assoc])
theorem nodJ_bytes (s : GS) : ∀ j, j ≤ s.ns.length → (nodJ s j).data.toList = catL 10 ((horL s.h :: (s.ns.take j).map nodL).map (·.data.toList))
  | 0, _ => by simp [nodJ, horW, horL, catL, bNl]
  | j + 1, hj => by
    have ih := nodJ_bytes s j (by omega)
    have e1 : s.ns.take (j + 1) = s.ns.take j ++ [s.ns[j]?.getD gN0] := by
      rw [List.take_add_one, List.getElem?_eq_getElem (by omega)]; rfl
    rw [e1, List.map_append, ← List.cons_append, List.map_append, show (List.map (·.data.toList) ([s.ns[j]?.getD gN0].map nodL)) = [(nodL (s.ns[j]?.getD gN0)).data.toList] from rfl, cat_snoc, ← ih]
    conv => lhs; unfold nodJ
    rw [nodS_eq]
    simp [bNl]
def linS (s : GS) : List ByteArray := (horL s.h :: s.ns.map nodL) ++ s.ts.map (tieW s.ns)
theorem tieJ_bytes (s : GS) : ∀ j, j ≤ s.ts.length → (tieJ s j).data.toList = catL 10 (((horL s.h :: s.ns.map nodL) ++ (s.ts.take j).map (tieW s.ns)).map (·.data.toList))
  | 0, _ => by
    unfold tieJ
    rw [nodJ_bytes s _ (Nat.le_refl _), List.take_of_length_le (Nat.le_refl _)]
    simp
  | j + 1, hj => by
    have ih := tieJ_bytes s j (by omega)
    have e1 : s.ts.take (j + 1) = s.ts.take j ++ [s.ts[j]?.getD gT0] := by
      rw [List.take_add_one, List.getElem?_eq_getElem (by omega)]; rfl
    have e2 : (horL s.h :: s.ns.map nodL) ++ (s.ts.take j ++ [s.ts[j]?.getD gT0]).map (tieW s.ns) = ((horL s.h :: s.ns.map nodL) ++ (s.ts.take j).map (tieW s.ns)) ++ [tieW s.ns (s.ts[j]?.getD gT0)] := by
      rw [List.map_append, List.append_assoc]; rfl
    rw [e1, e2, List.map_append, show List.map (·.data.toList) [tieW s.ns (s.ts[j]?.getD gT0)] = [(tieW s.ns (s.ts[j]?.getD gT0)).data.toList] from rfl, cat_snoc, ← ih]
    conv => lhs; unfold tieJ
    simp [bNl]
theorem fmtS_bytes {s : GS} (h : shR s = true) : (fmtS s).data.toList = catL 10 ((linS s).map (·.data.toList)) := by
  unfold fmtS linS
  rw [if_pos h, tieJ_bytes s _ (Nat.le_refl _), List.take_of_length_le (Nat.le_refl _)]
/-- What a valid show's nodes and ties are. -/
theorem shR_node {s : GS} (h : shR s = true) {j : Nat} (hj : j < s.ns.length) : nameB s.ns[j].name.data.toList = true ∧ labR s.ns[j].lab = true ∧ 0 ≤ s.ns[j].wat ∧ s.ns[j].wat ≤ 3 ∧ namR s.ns s.ns[j].name = j := by
  unfold shR ndsR at h
  simp only [Bool.and_eq_true] at h
  have h1 := allJ_of h.1.2.1 hj
  unfold ndA nodB at h1
  rw [List.getElem?_eq_getElem hj] at h1
  simp only [Option.getD_some, Bool.and_eq_true, decide_eq_true_eq] at h1
  exact ⟨h1.1.1, h1.1.2.1, h1.1.2.2.1, h1.1.2.2.2, h1.2.1⟩
theorem shR_tie {s : GS} (h : shR s = true) {j : Nat} (hj : j < s.ts.length) : (0 ≤ s.ts[j].u ∧ s.ts[j].u ≤ (s.ns.length : Int) - 1) ∧ (0 ≤ s.ts[j].v ∧ s.ts[j].v ≤ (s.ns.length : Int) - 1) ∧ -20 ≤ s.ts[j].lo ∧ s.ts[j].hi ≤ 20 ∧ s.ts[j].lo ≤ s.ts[j].hi := by
  unfold shR at h
  simp only [Bool.and_eq_true] at h
  have h1 := allJ_of h.2.2.2 hj
  unfold tiB at h1
  rw [List.getElem?_eq_getElem hj] at h1
  simp only [Option.getD_some, Bool.and_eq_true, decide_eq_true_eq] at h1
  exact ⟨h1.1, h1.2.1, h1.2.2.2.1, h1.2.2.2.2.1, h1.2.2.2.2.2.1⟩
theorem nmAt_of {s : GS} (h : shR s = true) {v : Int} (h0 : 0 ≤ v) (h1 : v ≤ (s.ns.length : Int) - 1) : nameB (nmAt s.ns v).data.toList = true ∧ namR s.ns (nmAt s.ns v) = v := by
  have hlt : v.toNat < s.ns.length := by omega
  have h2 := shR_node h hlt
  unfold nmAt
  rw [List.getElem?_eq_getElem hlt]
  simp only [Option.getD_some]
  exact ⟨h2.1, by rw [h2.2.2.2.2]; omega⟩
theorem free_lit {c : UInt8} {s : ByteArray} (h : s.data.toList.all (fun x => decide (x ≠ c)) = true) : freeB c s := fun x hx => of_decide_eq_true (List.all_eq_true.1 h x hx)
theorem free_app {c : UInt8} {a b : ByteArray} (ha : freeB c a) (hb : freeB c b) : freeB c (a ++ b) := by
  intro x hx
  have : x ∈ a.data.toList ∨ x ∈ b.data.toList := by simpa using hx
  rcases this with h | h
  · exact ha x h
  · exact hb x h
theorem hor_words (h : Int) : split (horL h) bSp = [bHor] ++ [numB h] :=
  split_words (by simp [horL, catL, bHor]) (by
    intro w hw
    obtain rfl : w = bHor := by simpa using hw
    exact free_lit (by decide)) (num_free h (by decide))
theorem nod_words {e : GN} (hn : nameB e.name.data.toList = true) (hl : labR e.lab = true) : split (nodL e) bSp = if e.wat = 0 then [bNode, e.name, fmtL e.lab] else [bNode, e.name, fmtL e.lab, bWatch, numB e.wat] := by
  by_cases h0 : e.wat = 0
  · rw [if_pos h0]
    exact split_words (ws := [bNode, e.name]) (x := fmtL e.lab) (by simp [nodL, h0, catL, bNode, bSp]) (by
      intro w hw
      simp at hw
      rcases hw with rfl | rfl
      · exact free_lit (by decide)
      · exact name_free hn (by decide)) (fmt_free hl (.inl rfl))
  · rw [if_neg h0]
    exact split_words (ws := [bNode, e.name, fmtL e.lab, bWatch]) (x := numB e.wat) (by simp [nodL, h0, catL, bNode, bWatch, bSp]) (by
      intro w hw
      simp at hw
      rcases hw with rfl | rfl | rfl | rfl
      · exact free_lit (by decide)
      · exact name_free hn (by decide)
      · exact fmt_free hl (.inl rfl)
      · exact free_lit (by decide)) (num_free _ (by decide))
theorem tie_words {ns : List GN} {t : GT} (hu : nameB (nmAt ns t.u).data.toList = true) (hv : nameB (nmAt ns t.v).data.toList = true) : split (tieW ns t) bSp = [if t.fr then bFree else bTie, nmAt ns t.u, nmAt ns t.v, numB t.lo, numB t.hi] := by
  refine split_words (ws := [if t.fr then bFree else bTie, nmAt ns t.u, nmAt ns t.v, numB t.lo]) (x := numB t.hi) (by cases hf : t.fr <;> simp [tieW, hf, catL, bFree, bTie, bSp]) (by
      intro w hw
      simp at hw
      rcases hw with rfl | rfl | rfl | rfl
      · cases t.fr
        · exact free_lit (by decide)
        · exact free_lit (by decide)
      · exact name_free hu (by decide)
      · exact name_free hv (by decide)
      · exact num_free _ (by decide)) (num_free _ (by decide))
theorem lin_free {s : GS} (h : shR s = true) : ∀ w ∈ linS s, freeB 10 w := by
  intro w hw
  unfold linS at hw
  rcases List.mem_append.1 hw with hw | hw
  · rcases List.mem_cons.1 hw with rfl | hw
    · exact free_app (free_lit (by decide)) (num_free _ (by decide))
    · obtain ⟨e, he, rfl⟩ := List.mem_map.1 hw
      obtain ⟨j, hj, rfl⟩ := List.getElem_of_mem he
      obtain ⟨h1, h2, _⟩ := shR_node h hj
      unfold nodL
      have ha : freeB 10 (((⟨#[110, 111, 100, 101, 32]⟩ ++ s.ns[j].name) ++ bSp) ++ fmtL s.ns[j].lab) := free_app (free_app (free_app (free_lit (by decide)) (name_free h1 (by decide))) (free_lit (by decide))) (fmt_free h2 (.inr rfl))
      split
      · exact ha
      · exact free_app (free_app ha (free_lit (by decide))) (num_free _ (by decide))
  · obtain ⟨t, ht, rfl⟩ := List.mem_map.1 hw
    obtain ⟨j, hj, rfl⟩ := List.getElem_of_mem ht
    obtain ⟨h1, h2, _⟩ := shR_tie h hj
    have hu := (nmAt_of h h1.1 h1.2).1
    have hv := (nmAt_of h h2.1 h2.2).1
    unfold tieW
    refine free_app (free_app (free_app (free_app (free_app (free_app (free_app ?_ (name_free hu (by decide))) (free_lit (by decide))) (name_free hv (by decide))) (free_lit (by decide))) (num_free _ (by decide))) (free_lit (by decide))) (num_free _ (by decide))
    split <;> exact free_lit (by decide)
theorem par_of {l : List Int} (h : labR l = true) : parL (fmtL l) = (l, true) := by
  obtain ⟨s, t, u, hs, ht, hu, rfl⟩ := dr_of h
  exact drL_read hs ht hu
theorem psJ_nodes {s : GS} (h : shR s = true) : ∀ j, j ≤ s.ns.length → psJ (linS s) (j + 1) = some ⟨s.ns.take j, [], s.h⟩
  | 0, _ => by
    have hr := shR_rng h
    have e0 : (linS s)[0]? = some (horL s.h) := rfl
    rw [psJ_next (s := gS0) rfl e0, hor_words]
    unfold lnR
    rw [if_pos ⟨rfl, rfl, rfl⟩]
    rw [show wAt ([bHor] ++ [numB s.h]) 1 = numB s.h from rfl, parse_numB _ (by omega) (by omega)]
    rfl
  | j + 1, hj => by
    have ih := psJ_nodes h j (by omega)
    have hr := shR_rng h
    have e0 : (linS s)[j + 1]? = some (nodL s.ns[j]) := by
      unfold linS
      rw [List.getElem?_append_left (by simp; omega), List.getElem?_cons_succ, List.getElem?_map, List.getElem?_eq_getElem (by omega)]; rfl
    obtain ⟨h1, h2, h3, h4, _⟩ := shR_node h (show j < s.ns.length by omega)
    have htk : (s.ns.take j).length = j := by rw [List.length_take]; omega
    rw [psJ_next ih e0, nod_words h1 h2]
    have hstep : ∀ w : List ByteArray, wAt w 0 = bNode → lnN w = some s.ns[j] → lnR ⟨s.ns.take j, [], s.h⟩ (j + 1) w = some ⟨s.ns.take (j + 1), [], s.h⟩ := by
      intro w hw0 hln
      unfold lnR
      rw [if_neg (fun e => by have := e.1; omega), if_pos ⟨hw0, by show (s.ns.take j).length < 7; omega⟩, hln]
      rw [List.take_add_one, List.getElem?_eq_getElem (show j < s.ns.length by omega)]
      rfl
    by_cases h0 : s.ns[j].wat = 0
    · rw [if_pos h0]
      apply hstep _ rfl
      unfold lnN
      rw [if_pos (.inl rfl), show wAt [bNode, s.ns[j].name, fmtL s.ns[j].lab] 2 = fmtL s.ns[j].lab from rfl, par_of h2, if_pos rfl, if_neg (by simp)]
      rw [← h0]; rfl
    · rw [if_neg h0]
      apply hstep _ rfl
      unfold lnN
      rw [if_pos (.inr rfl), show wAt [bNode, s.ns[j].name, fmtL s.ns[j].lab, bWatch, numB s.ns[j].wat] 2 = fmtL s.ns[j].lab from rfl, par_of h2, if_pos rfl, if_pos (show ([bNode, s.ns[j].name, fmtL s.ns[j].lab, bWatch, numB s.ns[j].wat] : List ByteArray).length = 5 from rfl), show wAt [bNode, s.ns[j].name, fmtL s.ns[j].lab, bWatch, numB s.ns[j].wat] 4 = numB s.ns[j].wat from rfl, parse_numB _ (by omega) (by omega)]
      rfl
theorem psJ_ties {s : GS} (h : shR s = true) : ∀ j, j ≤ s.ts.length → psJ (linS s) (s.ns.length + 1 + j) = some ⟨s.ns, s.ts.take j, s.h⟩
  | 0, _ => by
    have := psJ_nodes h s.ns.length (Nat.le_refl _)
    rw [List.take_of_length_le (Nat.le_refl _)] at this
    exact this
  | j + 1, hj => by
    have ih := psJ_ties h j (by omega)
    have hr := shR_rng h
    have e0 : (linS s)[s.ns.length + 1 + j]? = some (tieW s.ns s.ts[j]) := by
      unfold linS
      rw [List.getElem?_append_right (by simp), show s.ns.length + 1 + j - (horL s.h :: s.ns.map nodL).length = j from by simp, List.getElem?_map, List.getElem?_eq_getElem (by omega)]; rfl
    obtain ⟨h1, h2, h3, h4, h5⟩ := shR_tie h (show j < s.ts.length by omega)
    obtain ⟨hu, hu2⟩ := nmAt_of h h1.1 h1.2
    obtain ⟨hv, hv2⟩ := nmAt_of h h2.1 h2.2
    have htk : (s.ts.take j).length = j := by rw [List.length_take]; omega
    rw [show s.ns.length + 1 + (j + 1) = s.ns.length + 1 + j + 1 from by omega, psJ_next ih e0, tie_words hu hv]
    have hT : lnT s.ns [if s.ts[j].fr then bFree else bTie, nmAt s.ns s.ts[j].u, nmAt s.ns s.ts[j].v, numB s.ts[j].lo, numB s.ts[j].hi] = some s.ts[j] := by
      unfold lnT
      rw [if_pos (show ([if s.ts[j].fr then bFree else bTie, nmAt s.ns s.ts[j].u, nmAt s.ns s.ts[j].v, numB s.ts[j].lo, numB s.ts[j].hi] : List ByteArray).length = 5 from rfl)]
      show (match parseOf (numB s.ts[j].lo), parseOf (numB s.ts[j].hi) with | some a, some b => some (GT.mk (namR s.ns (nmAt s.ns s.ts[j].u)) (namR s.ns (nmAt s.ns s.ts[j].v)) a b (decide ((if s.ts[j].fr then bFree else bTie) = ⟨#[102, 114, 101, 101]⟩))) | _, _ => none) = some s.ts[j]
      rw [parse_numB _ (by omega) (by omega), parse_numB _ (by omega) (by omega), hu2, hv2]
      have hb : decide ((if s.ts[j].fr then bFree else bTie) = ⟨#[102, 114, 101, 101]⟩) = s.ts[j].fr := by
        cases s.ts[j].fr <;> decide
      rw [hb]
    unfold lnR
    have hw0 : wAt [if s.ts[j].fr then bFree else bTie, nmAt s.ns s.ts[j].u, nmAt s.ns s.ts[j].v, numB s.ts[j].lo, numB s.ts[j].hi] 0 = if s.ts[j].fr then bFree else bTie := rfl
    rw [hw0, if_neg (fun e => by have := e.1; omega), if_neg (by cases s.ts[j].fr <;> (intro e; revert e; simp; intro e; exact absurd e (by decide))), if_pos ⟨by cases s.ts[j].fr <;> simp [bFree, bTie], by show (s.ts.take j).length < 14; omega⟩, hT]
    rw [List.take_add_one, List.getElem?_eq_getElem (show j < s.ts.length by omega)]
    rfl
/-- What is written of a valid show is read again. -/
theorem psR_fmt {s : GS} (h : shR s = true) : psR (fmtS s) = (s, true) := by
  have hl : lines (fmtS s) = linS s := lines_cat (fmtS_bytes h) (lin_free h)
  have hp := psJ_ties h s.ts.length (Nat.le_refl _)
  rw [List.take_of_length_le (Nat.le_refl _)] at hp
  have hn : s.ns.length + 1 + s.ts.length = (linS s).length := by unfold linS; simp; omega
  rw [hn, ← hl] at hp
  rw [psR_some hp, if_pos ⟨h, rfl⟩]
theorem psR_cases (t : ByteArray) : psR t = (gS0, false) ∨ ∃ s, shR s = true ∧ fmtS s = t ∧ psR t = (s, true) := by
  unfold psR
  split
  · next s hs =>
    by_cases h : shR s = true ∧ fmtS s = t
    · rw [if_pos h]; exact .inr ⟨s, h.1, h.2, rfl⟩
    · rw [if_neg h]; exact .inl rfl
  · exact .inl rfl

end Go.Proofs.YtgajodcgedhikaaDoor

namespace Go.Proofs.YtgajodcgedhikaaDoor
open Go.RowKit
set_option linter.unusedVariables false
set_option linter.unusedSimpArgs false

theorem bytes_sameP {a b : ByteArray} (h : a = b) : (a.toList == b.toList) = true := by rw [h]; simp
theorem bytes_otherP {s t : ByteArray} (h : ¬ s = t) : (s.toList == t.toList) = false := by
  simp only [beq_eq_false_iff_ne, ne_eq]
  rw [Lib.toList_data, Lib.toList_data]
  intro e
  exact h (by apply ByteArray.ext; apply Array.toList_inj.1; exact e)
theorem nodB_eq (nm : ByteArray) (lab : List Int) (wat : Int) : nodB ⟨nm, lab, wat⟩ = (nameB nm.data.toList && (labR lab && (decide (0 ≤ wat) && decide (wat ≤ 3)))) := rfl

set_option maxRecDepth 100000 in
set_option maxHeartbeats 4000000 in
theorem spec_NodeOk (e : GN) (L : Option Addr) (c k : Nat) (w : World) (hk : e.lab.length = k) (hm : k ≤ 1048576) (hn : e.name.size ≤ maxLen) (hr : RowAt w L (e.lab.map intV)) :
    Calls Tryd.prog 51 #[.agg #[.string e.name, .slice L k c, .int .i64 e.wat]] w fun x w' => x = .returned (.bool (nodB e)) ∧ Below w.heap.size w w' := by
  obtain ⟨nm, lab, wat⟩ := e
  have HV := Lib.hid (nodB_eq nm lab wat)
  dsimp only at hk hr hn ⊢
  have HNM := Lib.hid (fun W => spec_IsName nm W hn)
  have HLB := Lib.hid (fun W h => spec_LabelOk lab L k c W hk hm h)
  have HIN := Lib.hid (l01In_any wat 0 3)
  have HR := Lib.hid hr
  clear hr hk hn
  obtain ⟨b1, hb1⟩ : ∃ b, b = nameB nm.data.toList := ⟨_, rfl⟩
  obtain ⟨b2, hb2⟩ : ∃ b, b = labR lab := ⟨_, rfl⟩
  obtain ⟨b3, hb3⟩ : ∃ b, b = (decide (0 ≤ wat) && decide (wat ≤ 3)) := ⟨_, rfl⟩
  rw [← hb1] at HNM HV
  rw [← hb2] at HLB HV
  rw [← hb3] at HIN HV
  clear hb1 hb2 hb3
  cases b1 with
  | false =>
    go_enter Tryd.func51, Tryd.ntmps51
    go_wp2_with fail
    refine (HNM.out _).mono ?_
    rintro x w1 ⟨rfl, rfl⟩
    go_wp2_with fail
    go_ret
    exact ⟨ret_b (by rw [HV.out]; rfl), (by repeat (first | exact Below.refl _ _ | refine below_step (by assumption) (by first | omega | (simp; done) | (simp; omega)) ?_ | refine below_drewN ?_ _ | refine Below.drew ?_ | refine Below.setCell ?_ (by first | omega | (simp; done) | (simp; omega)) _ | refine Below.alloc ?_ (by first | omega | (simp; done) | (simp; omega)) _))⟩
  | true =>
    cases b2 with
    | false =>
      go_enter Tryd.func51, Tryd.ntmps51
      go_wp2_with fail
      refine (HNM.out _).mono ?_
      rintro x w1 ⟨rfl, rfl⟩
      go_wp2_with fail
      refine (HLB.out _ (HR.out.below (by repeat (first | exact Below.refl _ _ | refine below_step (by assumption) (by first | omega | (simp; done) | (simp; omega)) ?_ | refine below_drewN ?_ _ | refine Below.drew ?_ | refine Below.setCell ?_ (by first | omega | (simp; done) | (simp; omega)) _ | refine Below.alloc ?_ (by first | omega | (simp; done) | (simp; omega)) _)))).mono ?_
      rintro x w1 ⟨rfl, rfl⟩
      go_wp2_with fail
      go_ret
      exact ⟨ret_b (by rw [HV.out]; rfl), (by repeat (first | exact Below.refl _ _ | refine below_step (by assumption) (by first | omega | (simp; done) | (simp; omega)) ?_ | refine below_drewN ?_ _ | refine Below.drew ?_ | refine Below.setCell ?_ (by first | omega | (simp; done) | (simp; omega)) _ | refine Below.alloc ?_ (by first | omega | (simp; done) | (simp; omega)) _))⟩
    | true =>
      go_enter Tryd.func51, Tryd.ntmps51
      go_wp2_with fail
      refine (HNM.out _).mono ?_
      rintro x w1 ⟨rfl, rfl⟩
      go_wp2_with fail
      refine (HLB.out _ (HR.out.below (by repeat (first | exact Below.refl _ _ | refine below_step (by assumption) (by first | omega | (simp; done) | (simp; omega)) ?_ | refine below_drewN ?_ _ | refine Below.drew ?_ | refine Below.setCell ?_ (by first | omega | (simp; done) | (simp; omega)) _ | refine Below.alloc ?_ (by first | omega | (simp; done) | (simp; omega)) _)))).mono ?_
      rintro x w1 ⟨rfl, rfl⟩
      go_wp2_with fail
      refine (HIN.out _).mono ?_
      rintro x w1 ⟨rfl, rfl⟩
      cases b3 with
      | false =>
        go_wp2_with fail
        go_ret
        exact ⟨ret_b (by rw [HV.out]; rfl), (by repeat (first | exact Below.refl _ _ | refine below_step (by assumption) (by first | omega | (simp; done) | (simp; omega)) ?_ | refine below_drewN ?_ _ | refine Below.drew ?_ | refine Below.setCell ?_ (by first | omega | (simp; done) | (simp; omega)) _ | refine Below.alloc ?_ (by first | omega | (simp; done) | (simp; omega)) _))⟩
      | true =>
        go_wp2_with fail
        go_ret
        exact ⟨ret_b (by rw [HV.out]; rfl), (by repeat (first | exact Below.refl _ _ | refine below_step (by assumption) (by first | omega | (simp; done) | (simp; omega)) ?_ | refine below_drewN ?_ _ | refine Below.drew ?_ | refine Below.setCell ?_ (by first | omega | (simp; done) | (simp; omega)) _ | refine Below.alloc ?_ (by first | omega | (simp; done) | (simp; omega)) _))⟩

set_option maxRecDepth 100000 in
set_option maxHeartbeats 4000000 in
theorem spec_l08Same (a b : List Int) (A : Option Addr) (k c : Nat) (B : Option Addr) (m d : Nat) (w : World) (hl : a.length = k) (hm : k ≤ 1048576) (hlb : b.length = m) (hmb : m ≤ 1048576) (hr : RowAt w A (a.map intV)) (hrb : RowAt w B (b.map intV)) :
    Calls Tryd.prog 56 #[.slice A k c, .slice B m d] w fun e w' => e = .returned (.bool (decide (a = b))) ∧ w = w' := by
  have HA := Lib.hid hr
  have HB := Lib.hid hrb
  have HL := Lib.hid hl
  have HLB := Lib.hid hlb
  clear hr hrb hl hlb
  by_cases hkm : k = m
  · subst hkm
    have hne : ((k : Int) != (k : Int)) = false := by simp
    go_enter Tryd.func56, Tryd.ntmps56
    go_wp2_with fail
    go_loopw [14] (fun i wr => ∃ j : Nat, j ≤ k ∧ i = .int .i64 j ∧ a.take j = b.take j ∧ wr = w) (fun i _ => k - (intOf i).toNat)
    case atStart => exact ⟨0, Nat.zero_le _, rfl, rfl, rfl⟩
    case round =>
      obtain ⟨j, hj, rfl, hall, hw⟩ := hrel
      obtain rfl : w = wr := hw.symm
      have HT := Lib.hid hall
      clear hall hw
      by_cases hlt : j < k
      · have hjk : ((j : Int) < (k : Int)) := by omega
        obtain ⟨g, o, rfl, hg, hc⟩ := row_getB HA.out (q := j) (by have := HL.out; omega)
        obtain ⟨g2, o2, rfl, hg2, hc2⟩ := row_getB HB.out (q := j) (by have := HLB.out; omega)
        obtain ⟨x, hx⟩ : ∃ x, x = a[j]'(by have := HL.out; omega) := ⟨_, rfl⟩
        obtain ⟨y, hy⟩ : ∃ x, x = b[j]'(by have := HLB.out; omega) := ⟨_, rfl⟩
        rw [← hx] at hc
        rw [← hy] at hc2
        have HX := Lib.hid hx
        have HY := Lib.hid hy
        clear hx hy
        by_cases hxy : x = y
        · have hb : (x != y) = false := by simp [hxy]
          have HXY := Lib.hid hxy
          clear hxy
          go_wp2_with fail
          go_roundw
          case rel => exact ⟨j + 1, by omega, by go_num, by rw [List.take_add_one, List.take_add_one, HT.out, List.getElem?_eq_getElem (by have := HL.out; omega), List.getElem?_eq_getElem (by have := HLB.out; omega), ← HX.out, ← HY.out, HXY.out], by first | rfl | trivial⟩
          case measure => simp [intOf]; omega
        · have hb : (x != y) = true := by simp [hxy]
          have HXY := Lib.hid hxy
          clear hxy
          go_wp2_with fail
          go_ret
          exact ⟨ret_b (decide_eq_false (fun e => HXY.out (by rw [HX.out, HY.out]; simp [e]))).symm, rfl⟩
      · have hjk : ¬ ((j : Int) < (k : Int)) := by omega
        go_wp2_with fail
        go_ret
        exact ⟨ret_b (decide_eq_true (by have := HT.out; rwa [List.take_of_length_le (by have := HL.out; omega), List.take_of_length_le (by have := HLB.out; omega)] at this)).symm, rfl⟩
  · have hne : ((k : Int) != (m : Int)) = true := by simp; omega
    go_enter Tryd.func56, Tryd.ntmps56
    go_wp2_with fail
    go_ret
    exact ⟨ret_b (decide_eq_false (fun e => hkm (by rw [← HL.out, ← HLB.out, e]))).symm, rfl⟩

set_option maxRecDepth 100000 in
set_option maxHeartbeats 4000000 in
theorem spec_l08Watcher (s : GS) (x : Int) (A : Option Addr) (k c : Nat) (B : Option Addr) (m d : Nat) (w : World) (hk : k ≤ 1048576) (ha : ShowAt w s A k B m) :
    Calls Tryd.prog 53 #[shV A k c B m d s.h, .int .i64 x] w fun e w' => e = .returned (.int .i64 (watR s.ns x)) ∧ Below w.heap.size w w' := by
  have HA := Lib.hid ha
  clear ha
  obtain ⟨h, hh⟩ : ∃ h, h = s.h := ⟨_, rfl⟩
  rw [← hh]
  clear hh
  unfold shV
  go_enter Tryd.func53, Tryd.ntmps53
  go_wp2_with fail
  go_loopw [10] (fun i wr => ∃ j : Nat, j ≤ k ∧ i = .int .i64 j ∧ (∀ q (hq : q < j) (hl : q < s.ns.length), decide ((s.ns[q]).wat = x) = false) ∧ Below w.heap.size w wr) (fun i _ => k - (intOf i).toNat)
  case atStart => exact ⟨0, Nat.zero_le _, rfl, fun q hq => by omega, (by repeat (first | exact Below.refl _ _ | refine below_step (by assumption) (by first | omega | (simp; done) | (simp; omega)) ?_ | refine below_drewN ?_ _ | refine Below.drew ?_ | refine Below.setCell ?_ (by first | omega | (simp; done) | (simp; omega)) _ | refine Below.alloc ?_ (by first | omega | (simp; done) | (simp; omega)) _))⟩
  case round =>
    obtain ⟨j, hj, rfl, hall, hbw⟩ := hrel
    have HALL := Lib.hid hall
    clear hall
    by_cases hlt : j < k
    · have hjk : ((j : Int) < (k : Int)) := by omega
      have hl := HA.out.ln
      obtain ⟨g, o, rfl, hg, hc⟩ := HA.out.nodes (by omega)
      have hc1 := hc j (by omega)
      obtain ⟨e, he⟩ : ∃ e, e = s.ns[j]'(by omega) := ⟨_, rfl⟩
      rw [← he] at hc1
      obtain ⟨d0, d2, L, cl, d1, _⟩ := hc1
      obtain ⟨q, hq⟩ : ∃ q, q = e.lab.length := ⟨_, rfl⟩
      rw [← hq] at d1
      have k0 := (hbw.cell (p := ⟨g, o + j * 3, none⟩) hg).trans d0
      have k1 := (hbw.cell (p := ⟨g, o + j * 3 + 1, none⟩) hg).trans d1
      have k2 := (hbw.cell (p := ⟨g, o + j * 3 + 2, none⟩) hg).trans d2
      have zr := hbw.size
      have BW := Lib.hid hbw
      have HE : Hid (∀ h : j < s.ns.length, s.ns[j]'h = e) := Lib.hid (fun _ => he.symm)
      clear hc d0 d1 d2 he hl hbw hq
      by_cases hx : e.wat = x
      · have hb : (e.wat == x) = true := by simp [hx]
        have HX := Lib.hid hx
        clear hx
        go_wp2_with fail
        go_ret
        refine ⟨int_ans ?_, BW.out.alloc zr _⟩
        unfold watR
        rw [fir_at (j := j) (by have := HA.out.ln; omega) HALL.out (by rw [HE.out]; exact decide_eq_true HX.out)]
      · have hb : (e.wat == x) = false := by simp [hx]
        have HX := Lib.hid hx
        clear hx
        go_wp2_with fail
        go_roundw
        case rel =>
          refine ⟨j + 1, by omega, by go_num, fun q hq hl => ?_, BW.out.alloc zr _⟩
          by_cases eq : q = j
          · subst eq; rw [HE.out]; exact decide_eq_false HX.out
          · exact HALL.out q (by omega) hl
        case measure => simp [intOf]; omega
    · have hjk : ¬ ((j : Int) < (k : Int)) := by omega
      go_wp2_with fail
      go_ret
      refine ⟨int_ans ?_, hbw⟩
      unfold watR
      rw [fir_all (j := j) HALL.out (by have := HA.out.ln; omega)]

set_option maxRecDepth 100000 in
set_option maxHeartbeats 4000000 in
theorem spec_NodeNamed (s : GS) (x : ByteArray) (A : Option Addr) (k c : Nat) (B : Option Addr) (m d : Nat) (w : World) (hk : k ≤ 1048576) (ha : ShowAt w s A k B m) :
    Calls Tryd.prog 52 #[shV A k c B m d s.h, .string x] w fun e w' => e = .returned (.int .i64 (namR s.ns x)) ∧ Below w.heap.size w w' := by
  have HA := Lib.hid ha
  clear ha
  obtain ⟨h, hh⟩ : ∃ h, h = s.h := ⟨_, rfl⟩
  rw [← hh]
  clear hh
  unfold shV
  go_enter Tryd.func52, Tryd.ntmps52
  go_wp2_with fail
  go_loopw [10] (fun i wr => ∃ j : Nat, j ≤ k ∧ i = .int .i64 j ∧ (∀ q (hq : q < j) (hl : q < s.ns.length), decide ((s.ns[q]).name = x) = false) ∧ Below w.heap.size w wr) (fun i _ => k - (intOf i).toNat)
  case atStart => exact ⟨0, Nat.zero_le _, rfl, fun q hq => by omega, (by repeat (first | exact Below.refl _ _ | refine below_step (by assumption) (by first | omega | (simp; done) | (simp; omega)) ?_ | refine below_drewN ?_ _ | refine Below.drew ?_ | refine Below.setCell ?_ (by first | omega | (simp; done) | (simp; omega)) _ | refine Below.alloc ?_ (by first | omega | (simp; done) | (simp; omega)) _))⟩
  case round =>
    obtain ⟨j, hj, rfl, hall, hbw⟩ := hrel
    have HALL := Lib.hid hall
    clear hall
    by_cases hlt : j < k
    · have hjk : ((j : Int) < (k : Int)) := by omega
      have hl := HA.out.ln
      obtain ⟨g, o, rfl, hg, hc⟩ := HA.out.nodes (by omega)
      have hc1 := hc j (by omega)
      obtain ⟨e, he⟩ : ∃ e, e = s.ns[j]'(by omega) := ⟨_, rfl⟩
      rw [← he] at hc1
      obtain ⟨d0, d2, L, cl, d1, _⟩ := hc1
      obtain ⟨q, hq⟩ : ∃ q, q = e.lab.length := ⟨_, rfl⟩
      rw [← hq] at d1
      have k0 := (hbw.cell (p := ⟨g, o + j * 3, none⟩) hg).trans d0
      have k1 := (hbw.cell (p := ⟨g, o + j * 3 + 1, none⟩) hg).trans d1
      have k2 := (hbw.cell (p := ⟨g, o + j * 3 + 2, none⟩) hg).trans d2
      have zr := hbw.size
      have BW := Lib.hid hbw
      have HE : Hid (∀ h : j < s.ns.length, s.ns[j]'h = e) := Lib.hid (fun _ => he.symm)
      clear hc d0 d1 d2 he hl hbw hq
      by_cases hx : e.name = x
      · have hb := bytes_sameP hx
        have HX := Lib.hid hx
        clear hx
        go_wp2_with fail
        go_ret
        refine ⟨int_ans ?_, BW.out.alloc zr _⟩
        unfold namR
        rw [fir_at (j := j) (by have := HA.out.ln; omega) HALL.out (by rw [HE.out]; exact decide_eq_true HX.out)]
      · have hb := bytes_otherP hx
        have HX := Lib.hid hx
        clear hx
        go_wp2_with fail
        go_roundw
        case rel =>
          refine ⟨j + 1, by omega, by go_num, fun q hq hl => ?_, BW.out.alloc zr _⟩
          by_cases eq : q = j
          · subst eq; rw [HE.out]; exact decide_eq_false HX.out
          · exact HALL.out q (by omega) hl
        case measure => simp [intOf]; omega
    · have hjk : ¬ ((j : Int) < (k : Int)) := by omega
      go_wp2_with fail
      go_ret
      refine ⟨int_ans ?_, hbw⟩
      unfold namR
      rw [fir_all (j := j) HALL.out (by have := HA.out.ln; omega)]

set_option maxRecDepth 100000 in
set_option maxHeartbeats 4000000 in
theorem spec_l08Free (s : GS) (x : Int) (A : Option Addr) (k c : Nat) (B : Option Addr) (m d : Nat) (w : World) (hm : m ≤ 1048576) (ha : ShowAt w s A k B m) :
    Calls Tryd.prog 57 #[shV A k c B m d s.h, .int .i64 x] w fun e w' => e = .returned (.int .i64 (freR s.ts x)) ∧ Below w.heap.size w w' := by
  have HA := Lib.hid ha
  clear ha
  obtain ⟨h, hh⟩ : ∃ h, h = s.h := ⟨_, rfl⟩
  rw [← hh]
  clear hh
  unfold shV
  go_enter Tryd.func57, Tryd.ntmps57
  go_wp2_with fail
  go_loopw [10] (fun i wr => ∃ j : Nat, j ≤ m ∧ i = .int .i64 j ∧ (∀ q (hq : q < j) (hl : q < s.ts.length), ((s.ts[q]).fr && decide ((s.ts[q]).v = x)) = false) ∧ Below w.heap.size w wr) (fun i _ => m - (intOf i).toNat)
  case atStart => exact ⟨0, Nat.zero_le _, rfl, fun q hq => by omega, (by repeat (first | exact Below.refl _ _ | refine below_step (by assumption) (by first | omega | (simp; done) | (simp; omega)) ?_ | refine below_drewN ?_ _ | refine Below.drew ?_ | refine Below.setCell ?_ (by first | omega | (simp; done) | (simp; omega)) _ | refine Below.alloc ?_ (by first | omega | (simp; done) | (simp; omega)) _))⟩
  case round =>
    obtain ⟨j, hj, rfl, hall, hbw⟩ := hrel
    have HALL := Lib.hid hall
    clear hall
    by_cases hlt : j < m
    · have hjk : ((j : Int) < (m : Int)) := by omega
      have hl := HA.out.lt
      obtain ⟨g, o, rfl, hg, hc⟩ := HA.out.ties (by omega)
      have hc1 := hc j (by omega)
      obtain ⟨e, he⟩ : ∃ e, e = s.ts[j]'(by omega) := ⟨_, rfl⟩
      rw [← he] at hc1
      obtain ⟨eu, ev, elo, ehi, ef⟩ := e
      obtain ⟨d0, d1, d2, d3, d4⟩ := hc1
      dsimp only at d0 d1 d2 d3 d4
      have k0 := (hbw.cell (p := ⟨g, o + j * 5, none⟩) hg).trans d0
      have k1 := (hbw.cell (p := ⟨g, o + j * 5 + 1, none⟩) hg).trans d1
      have k2 := (hbw.cell (p := ⟨g, o + j * 5 + 2, none⟩) hg).trans d2
      have k3 := (hbw.cell (p := ⟨g, o + j * 5 + 3, none⟩) hg).trans d3
      have k4 := (hbw.cell (p := ⟨g, o + j * 5 + 4, none⟩) hg).trans d4
      have zr := hbw.size
      have BW := Lib.hid hbw
      have HE : Hid (∀ h : j < s.ts.length, s.ts[j]'h = ⟨eu, ev, elo, ehi, ef⟩) := Lib.hid (fun _ => he.symm)
      have HNO : Hid ((ef && decide (ev = x)) = false → ∀ q (hq : q < j + 1) (hl : q < s.ts.length), ((s.ts[q]).fr && decide ((s.ts[q]).v = x)) = false) := Lib.hid (fun h0 q hq hl => by
        by_cases eq : q = j
        · subst eq; rw [← he]; exact h0
        · exact HALL.out q (by omega) hl)
      clear hc d0 d1 d2 d3 d4 he hl hbw
      cases ef with
      | false =>
        go_wp2_with fail
        go_roundw
        case rel => exact ⟨j + 1, by omega, by go_num, HNO.out rfl, BW.out.alloc zr _⟩
        case measure => simp [intOf]; omega
      | true =>
        by_cases hx : ev = x
        · have hb : (ev == x) = true := by simp [hx]
          have HX := Lib.hid hx
          clear hx
          go_wp2_with fail
          go_ret
          refine ⟨int_ans ?_, BW.out.alloc zr _⟩
          unfold freR
          rw [fir_at (j := j) (by have := HA.out.lt; omega) HALL.out (by rw [HE.out]; dsimp only; rw [decide_eq_true HX.out]; rfl)]
        · have hb : (ev == x) = false := by simp [hx]
          have HX := Lib.hid hx
          clear hx
          go_wp2_with fail
          go_roundw
          case rel => exact ⟨j + 1, by omega, by go_num, HNO.out (by rw [decide_eq_false HX.out]; rfl), BW.out.alloc zr _⟩
          case measure => simp [intOf]; omega
    · have hjk : ¬ ((j : Int) < (m : Int)) := by omega
      go_wp2_with fail
      go_ret
      refine ⟨int_ans ?_, hbw⟩
      unfold freR
      rw [fir_all (j := j) HALL.out (by have := HA.out.lt; omega)]

end Go.Proofs.YtgajodcgedhikaaDoor

namespace Go.Proofs.YtgajodcgedhikaaDoor
set_option linter.unusedVariables false

/-- A world of the class C. -/
structure WC (C : World → Prop) where
  w : World
  h : C w

theorem region_wc {P : Program} (C : World → Prop) {id : Nat} {Q : Exit → Act → World → Prop} {a : Act} {w : World} {l : List Oper} (hm : P.follows .mixedOrders = true) (hB : Region.lexB .any l.toArray = true)
    (hC : C w.drew) (h : wpQuiet P l.toArray (fun w' => ∃ x : WC C, w' = x.w) (fun a' => ∀ w', (∃ x : WC C, w' = x.w) → Q .normal a' w') l a) : (Code.region id l.toArray true).wp P Q a w :=
  wp_region_quiet (C := fun w' => ∃ x : WC C, w' = x.w) hm hB ⟨⟨_, hC⟩, rfl⟩ (by simpa using h)

/-- A callee's contract, met in a world of the class. -/
theorem wc_calls {P : Program} {C : World → Prop} {f : FuncId} {args : Array Value} {x : WC C} {v : Value} (h : Calls P f args x.w fun e w' => e = .returned v ∧ C w') :
    Calls P f args x.w fun e w' => e = .returned v ∧ ∃ y : WC C, w' = y.w :=
  h.mono fun _ _ ⟨he, hc⟩ => ⟨he, ⟨_, hc⟩, rfl⟩

end Go.Proofs.YtgajodcgedhikaaDoor
