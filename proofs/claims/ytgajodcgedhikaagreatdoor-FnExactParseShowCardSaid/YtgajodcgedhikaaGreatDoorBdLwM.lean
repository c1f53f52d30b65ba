/-
  PLAIN: what the program reads of a label's text.
  PLAIN: what is written of a valid show is read again.
  WALKS of spec.ShowOk, FreeTie, IsFree, WatcherOf.
  WALK of spec.ParseLabel.
-/
import Derived.Test.YtgajodcgedhikaaGreatDoorBdParse
import Derived.Test.YtgajodcgedhikaaGreatDoorBdShR
import Derived.Test.YtgajodcgedhikaaGreatDoorBdNum
import Derived.Deep.AppendLies
import Derived.Deep.CutRange
namespace Go.Proofs.YtgajodcgedhikaaGreatDoor
open Go.RowKit
set_option linter.unusedVariables false
set_option linter.unusedSimpArgs false

/-- Does s begin with p? -/
def hpB (s p : ByteArray) : Bool := decide (p.size ≤ s.size) && ((s.extract 0 p.size).data.toList == p.data.toList)
/-- s without p at its beginning. -/
def cutB (s p : ByteArray) : ByteArray := if hpB s p then s.extract p.size s.size else s
/-- The literal that the program reads of a word. -/
def litP (t : ByteArray) : Int := if hpB t ⟨#[33]⟩ then IntKind.i64.wrap (-((parseOf (cutB (cutB t ⟨#[33]⟩) ⟨#[112]⟩)).getD 0)) else (parseOf (cutB (cutB t ⟨#[33]⟩) ⟨#[112]⟩)).getD 0
def lwW (s : ByteArray) : List Int := (split s ⟨#[38]⟩).map litP
/-- The label that the program reads of a text. -/
def lwL (s : ByteArray) : List Int × Bool := if s = ⟨#[45]⟩ then ([], true) else if labR (lwW s) = true ∧ fmtL (lwW s) = s then (lwW s, true) else ([], false)
def R7 : List Int := [-3, -2, -1, 0, 1, 2, 3]
theorem mem7 {x : Int} (h : litB x = true) : x ∈ R7 := by
  have := litB_of h
  simp [R7]; omega
def fndR (l : List Int) : Bool := [0, 1, 2].any fun s => [0, 1, 2].any fun t => [0, 1, 2].any fun u => decide (l = drL s t u)
theorem fnd_of {l : List Int} (h : fndR l = true) : ∃ s t u, s ≤ 2 ∧ t ≤ 2 ∧ u ≤ 2 ∧ l = drL s t u := by
  unfold fndR at h
  rw [List.any_eq_true] at h
  obtain ⟨s, hs, h⟩ := h
  rw [List.any_eq_true] at h
  obtain ⟨t, ht, h⟩ := h
  rw [List.any_eq_true] at h
  obtain ⟨u, hu, h⟩ := h
  refine ⟨s, t, u, ?_, ?_, ?_, of_decide_eq_true h⟩
  · simp at hs; omega
  · simp at ht; omega
  · simp at hu; omega
theorem fnd0 : fndR [] = true := by decide +kernel
theorem fnd1 : (R7.all fun x => !(labR [x]) || fndR [x]) = true := by decide +kernel
theorem fnd2 : (R7.all fun x => R7.all fun y => !(labR [x, y]) || fndR [x, y]) = true := by decide +kernel
theorem fnd3 : (R7.all fun x => R7.all fun y => R7.all fun z => !(labR [x, y, z]) || fndR [x, y, z]) = true := by decide +kernel
theorem dr_of {l : List Int} (h : labR l = true) : ∃ s t u, s ≤ 2 ∧ t ≤ 2 ∧ u ≤ 2 ∧ l = drL s t u := by
  apply fnd_of
  have hlen := labR_len h
  match l, h, hlen with
  | [], _, _ => exact fnd0
  | [x], h, _ =>
    have hx := mem7 (labR_lit h (x := x) (by simp))
    have h1 := List.all_eq_true.1 fnd1 x hx
    rw [h] at h1; simpa using h1
  | [x, y], h, _ =>
    have hx := mem7 (labR_lit h (x := x) (by simp))
    have hy := mem7 (labR_lit h (x := y) (by simp))
    have h1 := List.all_eq_true.1 (List.all_eq_true.1 fnd2 x hx) y hy
    rw [h] at h1; simpa using h1
  | [x, y, z], h, _ =>
    have hx := mem7 (labR_lit h (x := x) (by simp))
    have hy := mem7 (labR_lit h (x := y) (by simp))
    have hz := mem7 (labR_lit h (x := z) (by simp))
    have h1 := List.all_eq_true.1 (List.all_eq_true.1 (List.all_eq_true.1 fnd3 x hx) y hy) z hz
    rw [h] at h1; simpa using h1
  | _ :: _ :: _ :: _ :: _, _, h => exact absurd h (by simp)
def readP (s : Nat) : Bool := all3 fun t => all3 fun u => decide (drL s t u = [] ∨ lwW (fmtL (drL s t u)) = drL s t u)
set_option maxRecDepth 100000 in
set_option maxHeartbeats 16000000 in
theorem readP0 : readP 0 = true := by decide +kernel
set_option maxRecDepth 100000 in
set_option maxHeartbeats 16000000 in
theorem readP1 : readP 1 = true := by decide +kernel
set_option maxRecDepth 100000 in
set_option maxHeartbeats 16000000 in
theorem readP2 : readP 2 = true := by decide +kernel
theorem drL_readP {s t u : Nat} (hs : s ≤ 2) (ht : t ≤ 2) (hu : u ≤ 2) : drL s t u = [] ∨ lwW (fmtL (drL s t u)) = drL s t u := by
  have h : all3 readP = true := by
    unfold all3
    rw [readP0, readP1, readP2]; rfl
  have h1 := all3_of (all3_of (all3_of h hs) ht) hu
  exact of_decide_eq_true h1
theorem parL_cases {s : ByteArray} (hd : ¬ s = ⟨#[45]⟩) : parL s = ([], false) ∨ ∃ o, labR o = true ∧ fmtL o = s ∧ parL s = (o, true) := by
  unfold parL
  rw [if_neg hd]
  split
  · next o ho =>
    by_cases h : labR o = true ∧ fmtL o = s
    · rw [if_pos h]; exact .inr ⟨o, h.1, h.2, rfl⟩
    · rw [if_neg h]; exact .inl rfl
  · exact .inl rfl
theorem lw_par (s : ByteArray) : lwL s = parL s := by
  by_cases hd : s = ⟨#[45]⟩
  · unfold lwL parL; rw [if_pos hd, if_pos hd]
  · by_cases h : labR (lwW s) = true ∧ fmtL (lwW s) = s
    · have h2 : lwL s = (lwW s, true) := by unfold lwL; rw [if_neg hd, if_pos h]
      rw [h2]
      obtain ⟨a, b, c, ha, hb, hc, e⟩ := dr_of h.1
      have hr := drL_read ha hb hc
      rw [← e, h.2] at hr
      exact hr.symm
    · have h2 : lwL s = ([], false) := by unfold lwL; rw [if_neg hd, if_neg h]
      rw [h2]
      rcases parL_cases hd with h3 | ⟨o, h3, h4, h5⟩
      · exact h3.symm
      · exfalso
        obtain ⟨a, b, c, ha, hb, hc, e⟩ := dr_of h3
        rcases drL_readP ha hb hc with h6 | h6
        · rw [← e] at h6
          apply hd
          rw [← h4, h6]; rfl
        · rw [← e, h4] at h6
          exact h ⟨by rw [h6]; exact h3, by rw [h6]; exact h4⟩

end Go.Proofs.YtgajodcgedhikaaGreatDoor

namespace Go.Proofs.YtgajodcgedhikaaGreatDoor
open Go.RowKit
set_option linter.unusedVariables false
set_option linter.unusedSimpArgs false

def freeB (c : UInt8) (s : ByteArray) : Prop := ∀ x ∈ s.data.toList, x ≠ c
theorem nameGo_char : ∀ {l : List UInt8} {i : Nat}, nameGo i l = true → ∀ x ∈ l, isLet x = true ∨ isDig x = true
  | [], _, _, x, hx => by simp at hx
  | c :: l, i, h, x, hx => by
    unfold nameGo at h
    have h2 : nameAt i c = true ∧ nameGo (i + 1) l = true := by simpa [nameAt] using h
    rcases List.mem_cons.1 hx with rfl | hx
    · have := h2.1
      unfold nameAt at this
      rw [Bool.or_eq_true, Bool.and_eq_true] at this
      rcases this with h3 | h3
      · exact .inl h3
      · exact .inr h3.2
    · exact nameGo_char h2.2 x hx
theorem name_free {s : ByteArray} (h : nameB s.data.toList = true) {c : UInt8} (hc : c.toNat < 48) : freeB c s := by
  intro x hx e
  subst e
  unfold nameB at h
  rw [Bool.and_eq_true] at h
  rcases nameGo_char h.2 x hx with h1 | h1
  · unfold isLet at h1; simp at h1; omega
  · unfold isDig at h1; simp at h1; omega
theorem num_free (n : Int) {c : UInt8} (hc : c.toNat < 45) : freeB c (numB n) := by
  intro x hx e
  subst e
  have hx2 : x ∈ Lib.itoa n := hx
  unfold Lib.itoa at hx2
  split at hx2
  · rcases List.mem_cons.1 hx2 with h | h
    · rw [h] at hc; simp at hc
    · have := (dec_digits _ x h).1; omega
  · have := (dec_digits _ x hx2).1; omega
def frL (s : Nat) : Bool := all3 fun t => all3 fun u => (fmtL (drL s t u)).data.toList.all fun x => decide (x ≠ 32) && decide (x ≠ 10)
set_option maxRecDepth 100000 in
set_option maxHeartbeats 16000000 in
theorem frL_all : all3 frL = true := by decide +kernel
theorem fmt_free {l : List Int} (h : labR l = true) {c : UInt8} (hc : c = 32 ∨ c = 10) : freeB c (fmtL l) := by
  obtain ⟨s, t, u, hs, ht, hu, rfl⟩ := dr_of h
  have h1 := all3_of (all3_of (all3_of frL_all hs) ht) hu
  intro x hx
  have h2 := List.all_eq_true.1 h1 x hx
  rw [Bool.and_eq_true, decide_eq_true_eq, decide_eq_true_eq] at h2
  rcases hc with rfl | rfl
  · exact h2.1
  · exact h2.2
/-- A line is split into the words that it is put together of. -/
theorem split_words {s x : ByteArray} {ws : List ByteArray} (h : s.data.toList = catL 32 (ws.map (·.data.toList)) ++ x.data.toList) (hw : ∀ w ∈ ws, freeB 32 w) (hx : freeB 32 x) : split s bSp = ws ++ [x] := by
  apply split_of
  rw [h, spF_append, spF_cat (by
    intro w hw2 y hy
    obtain ⟨v, hv, rfl⟩ := List.mem_map.1 hw2
    exact hw v hv y hy), spF_free hx]
  rfl
theorem cat_snoc (c : UInt8) (ws : List BL) (w : BL) : catL c (ws ++ [w]) = catL c ws ++ (w ++ [c]) := by simp [catL]
theorem lines_cat {s : ByteArray} {ws : List ByteArray} (h : s.data.toList = catL 10 (ws.map (·.data.toList))) (hw : ∀ w ∈ ws, freeB 10 w) : lines s = ws := by
  apply lines_of
  rw [h, spF_cat (by
    intro w hw2 y hy
    obtain ⟨v, hv, rfl⟩ := List.mem_map.1 hw2
    exact hw v hv y hy)]
  rfl

def bHor : ByteArray := ⟨#[104, 111, 114, 105, 122, 111, 110]⟩
def bNode : ByteArray := ⟨#[110, 111, 100, 101]⟩
def bWatch : ByteArray := ⟨#[119, 97, 116, 99, 104]⟩
def bTie : ByteArray := ⟨#[116, 105, 101]⟩
def bFree : ByteArray := ⟨#[102, 114, 101, 101]⟩
/-- The lines of a show's text, each without its newline. -/
def horL (h : Int) : ByteArray := (⟨#[104, 111, 114, 105, 122, 111, 110, 32]⟩ : ByteArray) ++ numB h
def nodL (e : GN) : ByteArray := if e.wat = 0 then ((⟨#[110, 111, 100, 101, 32]⟩ ++ e.name) ++ bSp) ++ fmtL e.lab else ((((⟨#[110, 111, 100, 101, 32]⟩ ++ e.name) ++ bSp) ++ fmtL e.lab) ++ ⟨#[32, 119, 97, 116, 99, 104, 32]⟩) ++ numB e.wat
theorem nodS_eq (out : ByteArray) (e : GN) : nodS out e = (out ++ nodL e) ++ bNl := by
  unfold nodS nodL
  split <;> (apply bytes_inj; simp [List.append_assoc])
theorem nodJ_bytes (s : GS) : ∀ j, j ≤ s.ns.length → (nodJ s j).data.toList = catL 10 ((horL s.h :: (s.ns.take j).map nodL).map (·.data.toList))
  | 0, _ => by simp [nodJ, horW, horL, catL, bNl]
  | j + 1, hj => by
    have ih := nodJ_bytes s j (by omega)
    have e1 : s.ns.take (j + 1) = s.ns.take j ++ [s.ns[j]?.getD gN0] := by
      rw [List.take_add_one, List.getElem?_eq_getElem (by omega)]; rfl
    rw [e1, List.map_append, ← List.cons_append, List.map_append, show (List.map (·.data.toList) ([s.ns[j]?.getD gN0].map nodL)) = [(nodL (s.ns[j]?.getD gN0)).data.toList] from rfl, cat_snoc, ← ih]
    conv => lhs; unfold nodJ
    rw [nodS_eq]
    simp [bNl]
def linS (s : GS) : List ByteArray := (horL s.h :: s.ns.map nodL) ++ s.ts.map (tieW s.ns)
theorem tieJ_bytes (s : GS) : ∀ j, j ≤ s.ts.length → (tieJ s j).data.toList = catL 10 (((horL s.h :: s.ns.map nodL) ++ (s.ts.take j).map (tieW s.ns)).map (·.data.toList))
  | 0, _ => by
    unfold tieJ
    rw [nodJ_bytes s _ (Nat.le_refl _), List.take_of_length_le (Nat.le_refl _)]
    simp
  | j + 1, hj => by
    have ih := tieJ_bytes s j (by omega)
    have e1 : s.ts.take (j + 1) = s.ts.take j ++ [s.ts[j]?.getD gT0] := by
      rw [List.take_add_one, List.getElem?_eq_getElem (by omega)]; rfl
    have e2 : (horL s.h :: s.ns.map nodL) ++ (s.ts.take j ++ [s.ts[j]?.getD gT0]).map (tieW s.ns) = ((horL s.h :: s.ns.map nodL) ++ (s.ts.take j).map (tieW s.ns)) ++ [tieW s.ns (s.ts[j]?.getD gT0)] := by
      rw [List.map_append, List.append_assoc]; rfl
    rw [e1, e2, List.map_append, show List.map (·.data.toList) [tieW s.ns (s.ts[j]?.getD gT0)] = [(tieW s.ns (s.ts[j]?.getD gT0)).data.toList] from rfl, cat_snoc, ← ih]
    conv => lhs; unfold tieJ
    simp [bNl]
theorem fmtS_bytes {s : GS} (h : shR s = true) : (fmtS s).data.toList = catL 10 ((linS s).map (·.data.toList)) := by
  unfold fmtS linS
  rw [if_pos h, tieJ_bytes s _ (Nat.le_refl _), List.take_of_length_le (Nat.le_refl _)]
/-- What a valid show's nodes and ties are. -/
theorem shR_node {s : GS} (h : shR s = true) {j : Nat} (hj : j < s.ns.length) : nameB s.ns[j].name.data.toList = true ∧ labR s.ns[j].lab = true ∧ 0 ≤ s.ns[j].wat ∧ s.ns[j].wat ≤ 3 ∧ namR s.ns s.ns[j].name = j := by
  unfold shR ndsR at h
  simp only [Bool.and_eq_true] at h
  have h1 := allJ_of h.1.2.1 hj
  unfold ndA nodB at h1
  rw [List.getElem?_eq_getElem hj] at h1
  simp only [Option.getD_some, Bool.and_eq_true, decide_eq_true_eq] at h1
  exact ⟨h1.1.1, h1.1.2.1, h1.1.2.2.1, h1.1.2.2.2, h1.2.1⟩
theorem shR_tie {s : GS} (h : shR s = true) {j : Nat} (hj : j < s.ts.length) : (0 ≤ s.ts[j].u ∧ s.ts[j].u ≤ (s.ns.length : Int) - 1) ∧ (0 ≤ s.ts[j].v ∧ s.ts[j].v ≤ (s.ns.length : Int) - 1) ∧ -20 ≤ s.ts[j].lo ∧ s.ts[j].hi ≤ 20 ∧ s.ts[j].lo ≤ s.ts[j].hi := by
  unfold shR at h
  simp only [Bool.and_eq_true] at h
  have h1 := allJ_of h.2.2.2 hj
  unfold tiB at h1
  rw [List.getElem?_eq_getElem hj] at h1
  simp only [Option.getD_some, Bool.and_eq_true, decide_eq_true_eq] at h1
  exact ⟨h1.1, h1.2.1, h1.2.2.2.1, h1.2.2.2.2.1, h1.2.2.2.2.2.1⟩
theorem nmAt_of {s : GS} (h : shR s = true) {v : Int} (h0 : 0 ≤ v) (h1 : v ≤ (s.ns.length : Int) - 1) : nameB (nmAt s.ns v).data.toList = true ∧ namR s.ns (nmAt s.ns v) = v := by
  have hlt : v.toNat < s.ns.length := by omega
  have h2 := shR_node h hlt
  unfold nmAt
  rw [List.getElem?_eq_getElem hlt]
  simp only [Option.getD_some]
  exact ⟨h2.1, by rw [h2.2.2.2.2]; omega⟩
theorem free_lit {c : UInt8} {s : ByteArray} (h : s.data.toList.all (fun x => decide (x ≠ c)) = true) : freeB c s := fun x hx => of_decide_eq_true (List.all_eq_true.1 h x hx)
theorem free_app {c : UInt8} {a b : ByteArray} (ha : freeB c a) (hb : freeB c b) : freeB c (a ++ b) := by
  intro x hx
  have : x ∈ a.data.toList ∨ x ∈ b.data.toList := by simpa using hx
  rcases this with h | h
  · exact ha x h
  · exact hb x h
theorem hor_words (h : Int) : split (horL h) bSp = [bHor] ++ [numB h] :=
  split_words (by simp [horL, catL, bHor]) (by
    intro w hw
    obtain rfl : w = bHor := by simpa using hw
    exact free_lit (by decide)) (num_free h (by decide))
theorem nod_words {e : GN} (hn : nameB e.name.data.toList = true) (hl : labR e.lab = true) : split (nodL e) bSp = if e.wat = 0 then [bNode, e.name, fmtL e.lab] else [bNode, e.name, fmtL e.lab, bWatch, numB e.wat] := by
  by_cases h0 : e.wat = 0
  · rw [if_pos h0]
    exact split_words (ws := [bNode, e.name]) (x := fmtL e.lab) (by simp [nodL, h0, catL, bNode, bSp]) (by
      intro w hw
      simp at hw
      rcases hw with rfl | rfl
      · exact free_lit (by decide)
      · exact name_free hn (by decide)) (fmt_free hl (.inl rfl))
  · rw [if_neg h0]
    exact split_words (ws := [bNode, e.name, fmtL e.lab, bWatch]) (x := numB e.wat) (by simp [nodL, h0, catL, bNode, bWatch, bSp]) (by
      intro w hw
      simp at hw
      rcases hw with rfl | rfl | rfl | rfl
      · exact free_lit (by decide)
      · exact name_free hn (by decide)
      · exact fmt_free hl (.inl rfl)
      · exact free_lit (by decide)) (num_free _ (by decide))
theorem tie_words {ns : List GN} {t : GT} (hu : nameB (nmAt ns t.u).data.toList = true) (hv : nameB (nmAt ns t.v).data.toList = true) : split (tieW ns t) bSp = [if t.fr then bFree else bTie, nmAt ns t.u, nmAt ns t.v, numB t.lo, numB t.hi] := by
  refine split_words (ws := [if t.fr then bFree else bTie, nmAt ns t.u, nmAt ns t.v, numB t.lo]) (x := numB t.hi) (by cases hf : t.fr <;> simp [tieW, hf, catL, bFree, bTie, bSp]) (by
      intro w hw
      simp at hw
      rcases hw with rfl | rfl | rfl | rfl
      · cases t.fr
        · exact free_lit (by decide)
        · exact free_lit (by decide)
      · exact name_free hu (by decide)
      · exact name_free hv (by decide)
      · exact num_free _ (by decide)) (num_free _ (by decide))
theorem lin_free {s : GS} (h : shR s = true) : ∀ w ∈ linS s, freeB 10 w := by
  intro w hw
  unfold linS at hw
  rcases List.mem_append.1 hw with hw | hw
  · rcases List.mem_cons.1 hw with rfl | hw
    · exact free_app (free_lit (by decide)) (num_free _ (by decide))
    · obtain ⟨e, he, rfl⟩ := List.mem_map.1 hw
      obtain ⟨j, hj, rfl⟩ := List.getElem_of_mem he
      obtain ⟨h1, h2, _⟩ := shR_node h hj
      unfold nodL
      have ha : freeB 10 (((⟨#[110, 111, 100, 101, 32]⟩ ++ s.ns[j].name) ++ bSp) ++ fmtL s.ns[j].lab) := free_app (free_app (free_app (free_lit (by decide)) (name_free h1 (by decide))) (free_lit (by decide))) (fmt_free h2 (.inr rfl))
      split
      · exact ha
      · exact free_app (free_app ha (free_lit (by decide))) (num_free _ (by decide))
  · obtain ⟨t, ht, rfl⟩ := List.mem_map.1 hw
    obtain ⟨j, hj, rfl⟩ := List.getElem_of_mem ht
    obtain ⟨h1, h2, _⟩ := shR_tie h hj
    have hu := (nmAt_of h h1.1 h1.2).1
    have hv := (nmAt_of h h2.1 h2.2).1
    unfold tieW
    refine free_app (free_app (free_app (free_app (free_app (free_app (free_app ?_ (name_free hu (by decide))) (free_lit (by decide))) (name_free hv (by decide))) (free_lit (by decide))) (num_free _ (by decide))) (free_lit (by decide))) (num_free _ (by decide))
    split <;> exact free_lit (by decide)
theorem par_of {l : List Int} (h : labR l = true) : parL (fmtL l) = (l, true) := by
  obtain ⟨s, t, u, hs, ht, hu, rfl⟩ := dr_of h
  exact drL_read hs ht hu
theorem psJ_nodes {s : GS} (h : shR s = true) : ∀ j, j ≤ s.ns.length → psJ (linS s) (j + 1) = some ⟨s.ns.take j, [], s.h⟩
  | 0, _ => by
    have hr := shR_rng h
    have e0 : (linS s)[0]? = some (horL s.h) := rfl
    rw [psJ_next (s := gS0) rfl e0, hor_words]
    unfold lnR
    rw [if_pos ⟨rfl, rfl, rfl⟩]
    rw [show wAt ([bHor] ++ [numB s.h]) 1 = numB s.h from rfl, parse_numB _ (by omega) (by omega)]
    rfl
  | j + 1, hj => by
    have ih := psJ_nodes h j (by omega)
    have hr := shR_rng h
    have e0 : (linS s)[j + 1]? = some (nodL s.ns[j]) := by
      unfold linS
      rw [List.getElem?_append_left (by simp; omega), List.getElem?_cons_succ, List.getElem?_map, List.getElem?_eq_getElem (by omega)]; rfl
    obtain ⟨h1, h2, h3, h4, _⟩ := shR_node h (show j < s.ns.length by omega)
    have htk : (s.ns.take j).length = j := by rw [List.length_take]; omega
    rw [psJ_next ih e0, nod_words h1 h2]
    have hstep : ∀ w : List ByteArray, wAt w 0 = bNode → lnN w = some s.ns[j] → lnR ⟨s.ns.take j, [], s.h⟩ (j + 1) w = some ⟨s.ns.take (j + 1), [], s.h⟩ := by
      intro w hw0 hln
      unfold lnR
      rw [if_neg (fun e => by have := e.1; omega), if_pos ⟨hw0, by show (s.ns.take j).length < 7; omega⟩, hln]
      rw [List.take_add_one, List.getElem?_eq_getElem (show j < s.ns.length by omega)]
      rfl
    by_cases h0 : s.ns[j].wat = 0
    · rw [if_pos h0]
      apply hstep _ rfl
      unfold lnN
      rw [if_pos (.inl rfl), show wAt [bNode, s.ns[j].name, fmtL s.ns[j].lab] 2 = fmtL s.ns[j].lab from rfl, par_of h2, if_pos rfl, if_neg (by simp)]
      rw [← h0]; rfl
    · rw [if_neg h0]
      apply hstep _ rfl
      unfold lnN
      rw [if_pos (.inr rfl), show wAt [bNode, s.ns[j].name, fmtL s.ns[j].lab, bWatch, numB s.ns[j].wat] 2 = fmtL s.ns[j].lab from rfl, par_of h2, if_pos rfl, if_pos (show ([bNode, s.ns[j].name, fmtL s.ns[j].lab, bWatch, numB s.ns[j].wat] : List ByteArray).length = 5 from rfl), show wAt [bNode, s.ns[j].name, fmtL s.ns[j].lab, bWatch, numB s.ns[j].wat] 4 = numB s.ns[j].wat from rfl, parse_numB _ (by omega) (by omega)]
      rfl
theorem psJ_ties {s : GS} (h : shR s = true) : ∀ j, j ≤ s.ts.length → psJ (linS s) (s.ns.length + 1 + j) = some ⟨s.ns, s.ts.take j, s.h⟩
  | 0, _ => by
    have := psJ_nodes h s.ns.length (Nat.le_refl _)
    rw [List.take_of_length_le (Nat.le_refl _)] at this
    exact this
  | j + 1, hj => by
    have ih := psJ_ties h j (by omega)
    have hr := shR_rng h
    have e0 : (linS s)[s.ns.length + 1 + j]? = some (tieW s.ns s.ts[j]) := by
      unfold linS
      rw [List.getElem?_append_right (by simp), show s.ns.length + 1 + j - (horL s.h :: s.ns.map nodL).length = j from by simp, List.getElem?_map, List.getElem?_eq_getElem (by omega)]; rfl
    obtain ⟨h1, h2, h3, h4, h5⟩ := shR_tie h (show j < s.ts.length by omega)
    obtain ⟨hu, hu2⟩ := nmAt_of h h1.1 h1.2
    obtain ⟨hv, hv2⟩ := nmAt_of h h2.1 h2.2
    have htk : (s.ts.take j).length = j := by rw [List.length_take]; omega
    rw [show s.ns.length + 1 + (j + 1) = s.ns.length + 1 + j + 1 from by omega, psJ_next ih e0, tie_words hu hv]
    have hT : lnT s.ns [if s.ts[j].fr then bFree else bTie, nmAt s.ns s.ts[j].u, nmAt s.ns s.ts[j].v, numB s.ts[j].lo, numB s.ts[j].hi] = some s.ts[j] := by
      unfold lnT
      rw [if_pos (show ([if s.ts[j].fr then bFree else bTie, nmAt s.ns s.ts[j].u, nmAt s.ns s.ts[j].v, numB s.ts[j].lo, numB s.ts[j].hi] : List ByteArray).length = 5 from rfl)]
      show (match parseOf (numB s.ts[j].lo), parseOf (numB s.ts[j].hi) with | some a, some b => some (GT.mk (namR s.ns (nmAt s.ns s.ts[j].u)) (namR s.ns (nmAt s.ns s.ts[j].v)) a b (decide ((if s.ts[j].fr then bFree else bTie) = ⟨#[102, 114, 101, 101]⟩))) | _, _ => none) = some s.ts[j]
      rw [parse_numB _ (by omega) (by omega), parse_numB _ (by omega) (by omega), hu2, hv2]
      have hb : decide ((if s.ts[j].fr then bFree else bTie) = ⟨#[102, 114, 101, 101]⟩) = s.ts[j].fr := by
        cases s.ts[j].fr <;> decide
      rw [hb]
    unfold lnR
    have hw0 : wAt [if s.ts[j].fr then bFree else bTie, nmAt s.ns s.ts[j].u, nmAt s.ns s.ts[j].v, numB s.ts[j].lo, numB s.ts[j].hi] 0 = if s.ts[j].fr then bFree else bTie := rfl
    rw [hw0, if_neg (fun e => by have := e.1; omega), if_neg (by cases s.ts[j].fr <;> (intro e; revert e; simp; intro e; exact absurd e (by decide))), if_pos ⟨by cases s.ts[j].fr <;> simp [bFree, bTie], by show (s.ts.take j).length < 14; omega⟩, hT]
    rw [List.take_add_one, List.getElem?_eq_getElem (show j < s.ts.length by omega)]
    rfl
/-- What is written of a valid show is read again. -/
theorem psR_fmt {s : GS} (h : shR s = true) : psR (fmtS s) = (s, true) := by
  have hl : lines (fmtS s) = linS s := lines_cat (fmtS_bytes h) (lin_free h)
  have hp := psJ_ties h s.ts.length (Nat.le_refl _)
  rw [List.take_of_length_le (Nat.le_refl _)] at hp
  have hn : s.ns.length + 1 + s.ts.length = (linS s).length := by unfold linS; simp; omega
  rw [hn, ← hl] at hp
  rw [psR_some hp, if_pos ⟨h, rfl⟩]
theorem psR_cases (t : ByteArray) : psR t = (gS0, false) ∨ ∃ s, shR s = true ∧ fmtS s = t ∧ psR t = (s, true) := by
  unfold psR
  split
  · next s hs =>
    by_cases h : shR s = true ∧ fmtS s = t
    · rw [if_pos h]; exact .inr ⟨s, h.1, h.2, rfl⟩
    · rw [if_neg h]; exact .inl rfl
  · exact .inl rfl

end Go.Proofs.YtgajodcgedhikaaGreatDoor

namespace Go.Proofs.YtgajodcgedhikaaGreatDoor
open Go.RowKit
set_option linter.unusedVariables false
set_option linter.unusedSimpArgs false

theorem shR_at (s : GS) : shR s = (ndsR s.ns && (decide (s.ts.length ≤ 14) && ((decide (1 ≤ s.h) && decide (s.h ≤ 10)) && allJ (tiB s.ns s.ts) s.ts.length))) := rfl

set_option maxRecDepth 100000 in
set_option maxHeartbeats 8000000 in
theorem spec_ShowOk (s : GS) (A : Option Addr) (k c : Nat) (B : Option Addr) (m d : Nat) (w : World) (hs : ShB s) (ha : ShowAt w s A k B m) :
    Calls Tryz.prog 14 #[shV A k c B m d s.h] w fun e w' => e = .returned (.bool (shR s)) ∧ Below w.heap.size w w' := by
  have HN := Lib.hid (fun W h => spec_l08Nodes s A k c B m d W hs h)
  have HT := Lib.hid (fun i W h1 h => spec_l08Tie s i A k c B m d W hs h1 h)
  have HI := Lib.hid (l01In_any s.h 1 10)
  have HLT := Lib.hid ha.lt
  have HV := Lib.hid (shR_at s)
  rw [ha.lt] at HV
  have HA := Lib.hid ha
  have hh : ∃ h, h = s.h := ⟨_, rfl⟩
  obtain ⟨w1, hw1⟩ : ∃ W, W = w.alloc (.cells #[.slice A k c, .slice B m d, .int .i64 s.h] 25) := ⟨_, rfl⟩
  have B_w1 : Below w.heap.size w w1 := by rw [hw1]; exact (Below.refl _ _).alloc (Nat.le_refl _) _
  have z_w1 : w.heap.size < w1.heap.size := by rw [hw1]; simp
  have c0_w1 : w1.cell? ⟨w.heap.size, 0, none⟩ = some (.slice A k c) := by rw [hw1]; go_simp
  have c1_w1 : w1.cell? ⟨w.heap.size, 1, none⟩ = some (.slice B m d) := by rw [hw1]; go_simp
  have c2_w1 : w1.cell? ⟨w.heap.size, 2, none⟩ = some (.int .i64 s.h) := by rw [hw1]; go_simp
  have HA1 := Lib.hid (ha.below B_w1)
  have BW1 := Lib.hid B_w1
  have HW1 := Lib.hid hw1
  clear ha hh hw1 B_w1
  unfold shV at HN HT ⊢
  obtain ⟨h, hh⟩ : ∃ h, h = s.h := ⟨_, rfl⟩
  rw [← hh] at HN HT HI HV HW1 c2_w1 ⊢
  clear hh
  obtain ⟨b1, hb1⟩ : ∃ b, b = ndsR s.ns := ⟨_, rfl⟩
  obtain ⟨b3, hb3⟩ : ∃ b, b = (decide (1 ≤ h) && decide (h ≤ 10)) := ⟨_, rfl⟩
  rw [← hb1] at HN HV
  rw [← hb3] at HI HV
  clear hb1 hb3
  cases b1 with
  | false =>
    go_enter Tryz.func14, Tryz.ntmps14
    go_wp2_with fail
    rw [← HW1.out]
    refine (HN.out _ HA1.out).mono ?_
    rintro e w2 ⟨rfl, b2⟩
    have c0_w2 : w2.cell? ⟨w.heap.size, 0, none⟩ = some (.slice A k c) := (b2.cell (p := ⟨w.heap.size, 0, none⟩) (by first | omega | (simp; done) | (simp; omega))).trans (by first | assumption | go_simp)
    have c1_w2 : w2.cell? ⟨w.heap.size, 1, none⟩ = some (.slice B m d) := (b2.cell (p := ⟨w.heap.size, 1, none⟩) (by first | omega | (simp; done) | (simp; omega))).trans (by first | assumption | go_simp)
    have c2_w2 : w2.cell? ⟨w.heap.size, 2, none⟩ = some (.int .i64 h) := (b2.cell (p := ⟨w.heap.size, 2, none⟩) (by first | omega | (simp; done) | (simp; omega))).trans (by first | assumption | go_simp)
    have B_w2 : Below w1.heap.size w1 w2 := (by repeat (first | exact Below.refl _ _ | refine below_step (by assumption) (by first | omega | (simp; done) | (simp; omega)) ?_ | refine below_drewN ?_ _ | refine Below.drew ?_ | refine Below.setCell ?_ (by first | omega | (simp; done) | (simp; omega)) _ | refine Below.alloc ?_ (by first | omega | (simp; done) | (simp; omega)) _))
    have z_w2 := B_w2.size
    clear b2 c0_w1 c1_w1 c2_w1
    go_wp2_with fail
    go_ret
    exact ⟨ret_b (by rw [HV.out]; rfl), BW1.out.trans (B_w2.mono BW1.out.size)⟩
  | true =>
    by_cases hm : m ≤ 14
    · have hmi : ¬ ((14 : Int) < (m : Int)) := by omega
      have HM := Lib.hid (decide_eq_true hm)
      go_enter Tryz.func14, Tryz.ntmps14
      go_wp2_with fail
      rw [← HW1.out]
      refine (HN.out _ HA1.out).mono ?_
      rintro e w2 ⟨rfl, b2⟩
      have c0_w2 : w2.cell? ⟨w.heap.size, 0, none⟩ = some (.slice A k c) := (b2.cell (p := ⟨w.heap.size, 0, none⟩) (by first | omega | (simp; done) | (simp; omega))).trans (by first | assumption | go_simp)
      have c1_w2 : w2.cell? ⟨w.heap.size, 1, none⟩ = some (.slice B m d) := (b2.cell (p := ⟨w.heap.size, 1, none⟩) (by first | omega | (simp; done) | (simp; omega))).trans (by first | assumption | go_simp)
      have c2_w2 : w2.cell? ⟨w.heap.size, 2, none⟩ = some (.int .i64 h) := (b2.cell (p := ⟨w.heap.size, 2, none⟩) (by first | omega | (simp; done) | (simp; omega))).trans (by first | assumption | go_simp)
      have B_w2 : Below w1.heap.size w1 w2 := (by repeat (first | exact Below.refl _ _ | refine below_step (by assumption) (by first | omega | (simp; done) | (simp; omega)) ?_ | refine below_drewN ?_ _ | refine Below.drew ?_ | refine Below.setCell ?_ (by first | omega | (simp; done) | (simp; omega)) _ | refine Below.alloc ?_ (by first | omega | (simp; done) | (simp; omega)) _))
      have z_w2 := B_w2.size
      clear b2 c0_w1 c1_w1 c2_w1
      go_wp2_with fail
      refine (HI.out _).mono ?_
      rintro e wx ⟨rfl, hwx⟩
      subst hwx
      cases b3 with
      | false =>
        go_wp2_with fail
        go_ret
        exact ⟨ret_b (by rw [HV.out, HM.out]; rfl), BW1.out.trans (B_w2.mono BW1.out.size)⟩
      | true =>
        have BW2 := Lib.hid B_w2
        have HA2 := Lib.hid (HA1.out.below B_w2)
        go_wp2_with fail
        go_loopw [22] (fun i wr => ∃ j : Nat, j ≤ m ∧ i = .int .i64 j ∧ allJ (tiB s.ns s.ts) j = true ∧ Below w2.heap.size w2 wr) (fun i _ => m - (intOf i).toNat)
        case atStart => exact ⟨0, Nat.zero_le _, rfl, rfl, Below.refl _ _⟩
        case round =>
          obtain ⟨j, hj, rfl, hall, hbw⟩ := hrel
          have HALL := Lib.hid hall
          clear hall
          have zs2 : w.heap.size < w2.heap.size := Nat.lt_of_lt_of_le z_w1 z_w2
          have k0 := (hbw.cell (p := ⟨w.heap.size, 0, none⟩) zs2).trans c0_w2
          have k1 := (hbw.cell (p := ⟨w.heap.size, 1, none⟩) zs2).trans c1_w2
          have k2 := (hbw.cell (p := ⟨w.heap.size, 2, none⟩) zs2).trans c2_w2
          have BW := Lib.hid hbw
          clear hbw
          by_cases hlt : j < m
          · have hjm : ((j : Int) < (m : Int)) := by omega
            have hti := fun W hh => HT.out j W hlt hh
            obtain ⟨b, hb⟩ : ∃ b, b = tiB s.ns s.ts j := ⟨_, rfl⟩
            rw [← hb] at hti
            have HTI := Lib.hid hti
            have HB := Lib.hid hb.symm
            clear hti hb
            go_wp2_with fail
            refine (HTI.out _ (HA2.out.below BW.out)).mono ?_
            rintro e w3 ⟨rfl, b3⟩
            have B3 := Lib.hid (BW.out.trans (b3.mono BW.out.size))
            clear b3 k0 k1 k2
            cases b with
            | false =>
              have HNO := Lib.hid (allJ_no (f := tiB s.ns s.ts) (j := j + 1) (by rw [allJ_next, HB.out, Bool.and_false]) (show j + 1 ≤ m by omega))
              go_wp2_with fail
              go_ret
              exact ⟨ret_b (by rw [HV.out, HM.out, HNO.out]; rfl), BW1.out.trans ((BW2.out.trans (B3.out.mono BW2.out.size)).mono BW1.out.size)⟩
            | true =>
              go_wp2_with fail
              go_roundw
              case rel => exact ⟨j + 1, by omega, by go_num, by rw [allJ_next, HALL.out, HB.out]; rfl, B3.out⟩
              case measure => simp [intOf]; omega
          · have hjm : ¬ ((j : Int) < (m : Int)) := by omega
            have HYES := Lib.hid (show allJ (tiB s.ns s.ts) m = true from by rw [show m = j from by omega]; exact HALL.out)
            go_wp2_with fail
            go_ret
            exact ⟨ret_b (by rw [HV.out, HM.out, HYES.out]; rfl), BW1.out.trans ((BW2.out.trans (BW.out.mono BW2.out.size)).mono BW1.out.size)⟩
    · have hmi : ((14 : Int) < (m : Int)) := by omega
      have HM := Lib.hid (decide_eq_false hm)
      go_enter Tryz.func14, Tryz.ntmps14
      go_wp2_with fail
      rw [← HW1.out]
      refine (HN.out _ HA1.out).mono ?_
      rintro e w2 ⟨rfl, b2⟩
      have c0_w2 : w2.cell? ⟨w.heap.size, 0, none⟩ = some (.slice A k c) := (b2.cell (p := ⟨w.heap.size, 0, none⟩) (by first | omega | (simp; done) | (simp; omega))).trans (by first | assumption | go_simp)
      have c1_w2 : w2.cell? ⟨w.heap.size, 1, none⟩ = some (.slice B m d) := (b2.cell (p := ⟨w.heap.size, 1, none⟩) (by first | omega | (simp; done) | (simp; omega))).trans (by first | assumption | go_simp)
      have c2_w2 : w2.cell? ⟨w.heap.size, 2, none⟩ = some (.int .i64 h) := (b2.cell (p := ⟨w.heap.size, 2, none⟩) (by first | omega | (simp; done) | (simp; omega))).trans (by first | assumption | go_simp)
      have B_w2 : Below w1.heap.size w1 w2 := (by repeat (first | exact Below.refl _ _ | refine below_step (by assumption) (by first | omega | (simp; done) | (simp; omega)) ?_ | refine below_drewN ?_ _ | refine Below.drew ?_ | refine Below.setCell ?_ (by first | omega | (simp; done) | (simp; omega)) _ | refine Below.alloc ?_ (by first | omega | (simp; done) | (simp; omega)) _))
      have z_w2 := B_w2.size
      clear b2 c0_w1 c1_w1 c2_w1
      go_wp2_with fail
      go_ret
      exact ⟨ret_b (by rw [HV.out, HM.out]; rfl), BW1.out.trans (B_w2.mono BW1.out.size)⟩

end Go.Proofs.YtgajodcgedhikaaGreatDoor

namespace Go.Proofs.YtgajodcgedhikaaGreatDoor
open Go.RowKit
set_option linter.unusedVariables false
set_option linter.unusedSimpArgs false

theorem row_getS {w : World} {A : Option Addr} {zs : List ByteArray} (h : RowAt w A (zs.map Value.string)) {q : Nat} (hq : q < zs.length) : ∃ g o, A = some ⟨g, o, none⟩ ∧ g < w.heap.size ∧ w.cell? ⟨g, o + q, none⟩ = some (.string zs[q]) := by
  obtain ⟨g, o, hA, hg, hc⟩ := h (by simp; omega)
  refine ⟨g, o, hA, hg, ?_⟩
  have := hc q (by simp; omega)
  simpa using this
theorem bytes_same {a b : ByteArray} (h : a = b) : (a.toList == b.toList) = true := by rw [h]; simp
theorem bytes_other {s t : ByteArray} (h : ¬ s = t) : (s.toList == t.toList) = false := by
  simp only [beq_eq_false_iff_ne, ne_eq]
  rw [Lib.toList_data, Lib.toList_data]
  intro e
  exact h (by apply ByteArray.ext; apply Array.toList_inj.1; exact e)
theorem dash_list : (⟨#[45]⟩ : ByteArray).toList = [45] := (Lib.toList_data _).trans rfl
theorem one_c1T (a : Int) : ∀ u ∈ [Value.int .i64 a], u.oneCell' = true := fun u hu => by simp at hu; subst hu; rfl
theorem splitTo_first (s sp : ByteArray) : ∀ k : Nat, k ≤ s.size → (splitTo s sp k).1.length = 0 ∨ ((splitTo s sp k).1[0]?.getD (ByteArray.mk #[])).size + (splitTo s sp k).1.length ≤ (splitTo s sp k).2
  | 0, _ => .inl rfl
  | k + 1, hk => by
    have ih := splitTo_first s sp k (by omega)
    have hle := (splitTo_le s sp k).1
    unfold splitTo
    split
    · split
      · right
        rcases ih with h0 | h1
        · have hz := split_first s sp k h0
          have hnil : (splitTo s sp k).1 = [] := List.length_eq_zero_iff.1 h0
          rw [hnil, hz]
          simp [ByteArray.size_extract]
          omega
        · by_cases hp : (splitTo s sp k).1.length = 0
          · have hz := split_first s sp k hp
            have hnil : (splitTo s sp k).1 = [] := List.length_eq_zero_iff.1 hp
            rw [hnil, hz]
            simp [ByteArray.size_extract]
            omega
          · rw [List.getElem?_append_left (by omega), List.length_append]
            simp only [List.length_cons, List.length_nil]
            omega
      · exact ih
    · exact ih
theorem split_bound (s sp : ByteArray) (h : 2 ≤ ((split s sp)[0]?.getD (ByteArray.mk #[])).size) : (split s sp).length ≤ s.size := by
  have h1 := splitTo_first s sp s.size (Nat.le_refl _)
  have hle := (splitTo_le s sp s.size).1
  unfold split at h ⊢
  rw [List.length_append, List.length_cons, List.length_nil]
  by_cases hp : (splitTo s sp s.size).1.length = 0
  · have hz := split_first s sp s.size hp
    have hnil : (splitTo s sp s.size).1 = [] := List.length_eq_zero_iff.1 hp
    rw [hnil, hz] at h
    simp [ByteArray.size_extract] at h
    omega
  · rw [List.getElem?_append_left (by omega)] at h
    omega
theorem parW_size {t : ByteArray} {x : Int} (h : parW t = some x) : 2 ≤ t.size := by
  have h2 : 2 ≤ (stripB t).size := by
    by_cases h2 : 2 ≤ (stripB t).size
    · exact h2
    · unfold parW at h; rw [word_short h2] at h; simp at h
  unfold stripB at h2
  split at h2
  · rw [ByteArray.size_extract] at h2; omega
  · exact h2
theorem parJ_first {ws : List ByteArray} : ∀ {j : Nat} {o : List Int}, parJ ws j = some o → 0 < j → 2 ≤ (ws[0]?.getD (ByteArray.mk #[])).size
  | 0, o, h, h0 => by omega
  | j + 1, o, h, _ => by
    unfold parJ at h
    cases h1 : parJ ws j with
    | none => rw [h1] at h; simp at h
    | some o1 =>
      rw [h1] at h
      cases h2 : parW (ws[j]?.getD ⟨#[]⟩) with
      | none => rw [h2] at h; simp at h
      | some x =>
        rcases Nat.eq_zero_or_pos j with e | e
        · subst e; exact parW_size h2
        · exact parJ_first h1 e
theorem wrap_neg3 {n : Int} (h : 1 ≤ n ∧ n ≤ 3) : IntKind.i64.wrap (-1 * n) = -n := by
  have : n = 1 ∨ n = 2 ∨ n = 3 := by omega
  rcases this with rfl | rfl | rfl <;> decide
theorem wrap_pos3 {n : Int} (h : 1 ≤ n ∧ n ≤ 3) : IntKind.i64.wrap (1 * n) = n := by
  have : n = 1 ∨ n = 2 ∨ n = 3 := by omega
  rcases this with rfl | rfl | rfl <;> decide
theorem split_pos (s sp : ByteArray) : 1 ≤ (split s sp).length := by unfold split; simp
theorem off_block {v : Value} {g a b : Nat} (h : ∀ q, v.ownBlock = some q → a ≤ q ∧ q < b) (hg : g < a ∨ b ≤ g) {u : Value} (hu : u.ownBlock = some g) : v.ownBlock = none ∨ v.ownBlock ≠ u.ownBlock := by
  cases hv : v.ownBlock with
  | none => exact Or.inl rfl
  | some q =>
    refine Or.inr fun he => ?_
    rw [hu] at he
    have := h q hv
    injection he with he
    omega

set_option maxRecDepth 100000 in
set_option maxHeartbeats 8000000 in
theorem spec_ParseLabel (s : ByteArray) (w : World) (hs : s.size ≤ 1048576) :
    Calls Tryz.prog 28 #[.string s] w fun e w' => ∃ B q cb, e = .returned (.tuple #[.slice B q cb, .bool (parL s).2]) ∧ q = (parL s).1.length ∧ w'.ownsRow w.heap.size 3 1 (.slice B q cb) q ((parL s).1.map intV) ∧ Below w.heap.size w w' := by
  obtain ⟨i1, hii, hy0, hy1, hy2⟩ := info_parts Tryz.info3
  obtain ⟨wa, hwa⟩ : ∃ W, W = w.alloc (.cells #[] 3) := ⟨_, rfl⟩
  have ba : Below w.heap.size w wa := by rw [hwa]; exact (Below.refl _ _).alloc (Nat.le_refl _) _
  have OA : Hid (wa.ownsRow w.heap.size 3 1 (.slice (some ⟨w.heap.size, 0, none⟩) 0 0) 0 (([] : List Int).map intV)) := Lib.hid (own_empS w.heap.size (Nat.le_refl _) (by rw [hwa]; exact heap_alloc_new _ _))
  have hwz : wa.heap.size = w.heap.size + 1 := by rw [hwa]; simp
  have HWZ := Lib.hid hwz
  have BA := Lib.hid ba
  clear ba hwz
  by_cases hdash : s = ⟨#[45]⟩
  · have HR0 := Lib.hid (show parL s = ([], true) from by unfold parL; rw [if_pos hdash])
    have hd : (s.toList == [45]) = true := by have := bytes_same hdash; rwa [dash_list] at this
    clear hdash
    go_enter Tryz.func28, Tryz.ntmps28
    go_upto_region 2 with (fail)
    rw [← hwa]
    clear hwa
    go_wp2_with fail
    refine bodyPost_ret (v := .tuple #[.slice (some ⟨w.heap.size, 0, none⟩) 0 0, .bool true]) (by simp [results, Tryz.results28, go_sem]) rfl ?_
    rw [HR0.out]
    exact ⟨_, 0, 0, rfl, rfl, OA.out, BA.out⟩
  · have hd : (s.toList == [45]) = false := by have := bytes_other hdash; rwa [dash_list] at this
    have HSP := Lib.hid (spec_SplitAny s ⟨#[38]⟩ wa (by omega) (by decide))
    have HND := Lib.hid hdash
    clear hdash
    obtain ⟨ws, hws⟩ : ∃ t, t = split s ⟨#[38]⟩ := ⟨_, rfl⟩
    obtain ⟨n, hn⟩ : ∃ t, t = ws.length := ⟨_, rfl⟩
    have hn1 : n ≤ 1048577 := by rw [hn, hws]; exact Nat.le_trans (split_len _ _) (by omega)
    have hsz : ∀ x ∈ ws, x.size ≤ 1048576 := by rw [hws]; intro x hx; exact Nat.le_trans (split_sizes _ _ x hx) (by omega)
    have HSZ := Lib.hid hsz
    rw [← hws] at HSP
    rw [← hn] at HSP
    have HWS := Lib.hid hws
    have HN := Lib.hid hn
    clear hws hn hsz
    go_enter Tryz.func28, Tryz.ntmps28
    go_upto_region 2 with (fail)
    rw [← hwa]
    clear hwa
    go_wp2_with fail
    refine HSP.out.mono ?_
    rintro e w1 ⟨v, rfl, hown, bh⟩
    obtain ⟨A0, dc, rfl, hcap, _⟩ := own_form hown
    have ltw := hown.lt
    obtain ⟨e1, he1⟩ : ∃ e, e = w1.heap.size := ⟨_, rfl⟩
    rw [← he1] at ltw
    have hbs0 := bh.size
    have OS := Lib.hid hown
    have B1 := Lib.hid (BA.out.trans (bh.mono BA.out.size))
    have OA1 := Lib.hid (own_below OA.out bh)
    have LTW := Lib.hid ltw
    have HE1 := Lib.hid he1
    clear hown bh ltw OA HSP
    go_wp2_with fail
    go_loopw [17, 4] (fun i sv wr => ∃ (j : Nat) (o : List Int) (g2 d2 : Nat), j ≤ n ∧ i = .int .i64 j ∧ sv = .slice (some ⟨g2, 0, none⟩) j d2 ∧ parJ ws j = some o ∧ (g2 = w.heap.size ∨ e1 ≤ g2) ∧ wr.ownsRow w.heap.size 3 1 (.slice (some ⟨g2, 0, none⟩) j d2) j (o.map intV) ∧ wr.ownsRow wa.heap.size 9 1 (.slice A0 n dc) n (ws.map Value.string) ∧ e1 ≤ wr.heap.size ∧ Below w.heap.size w wr) (fun i _ _ => n - (intOf i).toNat)
    case atStart => exact ⟨0, [], _, _, Nat.zero_le _, rfl, rfl, rfl, .inl rfl, OA1.out, OS.out, by rw [HE1.out]; exact Nat.le_refl _, B1.out⟩
    case round =>
      obtain ⟨j, o, g2, d2, hj, rfl, rfl, hpj, hg2, hown, hos, hes, hb⟩ := hrel
      have OW := Lib.hid hown
      have OR := Lib.hid hos
      have HB := Lib.hid hb
      have HPJ := Lib.hid hpj
      have HG2 := Lib.hid hg2
      clear hown hos hb hpj hg2
      by_cases hlt : j < n
      · have hjl : ((j : Int) < (n : Int)) := by omega
        obtain ⟨g, o', hA0, hg, hc⟩ := row_getS (own_row OR.out) (q := j) (by have := HN.out; omega)
        obtain ⟨t, ht⟩ : ∃ t, t = ws[j]'(by have := HN.out; omega) := ⟨_, rfl⟩
        rw [← ht] at hc
        have hwj : ws[j]? = some t := by rw [ht]; exact List.getElem?_eq_getElem (by have := HN.out; omega)
        have hts : t.size ≤ 1048576 := by rw [ht]; exact HSZ.out _ (List.getElem_mem _)
        have HWJ := Lib.hid hwj
        subst hA0
        have x1 := hc
        clear hc ht hwj
        by_cases h0 : 0 < t.size
        · by_cases h33 : t[0].toNat = 33
          · have hng : negB t = true := by rw [neg_is h0, h33]; rfl
            have c1 : ((0 : Int) < (t.size : Int)) := by omega
            have c2 : ((t[0].toNat : Int) == 33) = true := by rw [h33]; rfl
            obtain ⟨u, hu⟩ : ∃ u, u = t.extract 1 t.size := ⟨_, rfl⟩
            have hst : stripB t = u := by unfold stripB; rw [if_pos hng, hu]
            have hus : u.size ≤ 1048576 := by rw [hu, ByteArray.size_extract]; omega
            have hpw : parW t = match wordN u with | some n => some (-n) | none => none := by unfold parW; rw [hst, hng]; rfl
            have HU := Lib.hid hu
            clear hst hng hu h33
            by_cases h2 : 2 ≤ u.size
            · by_cases h112 : u[0].toNat = 112
              · have d1 : ¬ ((u.size : Int) < 2) := by omega
                have d2 : ((u[0].toNat : Int) != 112) = false := by rw [h112]; rfl
                have hwn := word_is h2 h112
                rw [hwn] at hpw
                obtain ⟨y, hy⟩ : ∃ y, y = u.extract 1 u.size := ⟨_, rfl⟩
                rw [← hy] at hpw
                have hys : y.size ≤ 1048576 := by rw [hy, ByteArray.size_extract]; omega
                have hpi := fun W => spec_ParseInt y W hys
                have HY := Lib.hid hy
                clear hwn hy hys h112
                cases hpu : parseOf y with
                | none =>
                  rw [hpu] at hpi hpw
                  have HPW := Lib.hid hpw
                  have HPI := Lib.hid (fun W => (hpi W).mono fun e w' h => (⟨h.1, h.2⟩ : e = .returned (.tuple #[.int .i64 0, .bool false]) ∧ Below W.heap.size W w'))
                  have HR0 := Lib.hid (parL_none HND.out (j := j + 1) (by rw [← HWS.out, ← HN.out]; omega) (by rw [← HWS.out]; exact parJ_stop HPJ.out HWJ.out HPW.out))
                  clear hpi hpw hpu
                  go_upto_region 11 with (fail)
                  rw [← HU.out]
                  go_wp2_with fail
                  rw [← HY.out]
                  refine (HPI.out _).mono ?_
                  rintro e w2 ⟨rfl, bh⟩
                  have HB2 := Lib.hid (HB.out.trans (bh.mono HB.out.size))
                  clear bh
                  go_wp2_with fail
                  refine bodyPost_ret (v := .tuple #[.slice none 0 0, .bool false]) (by simp [results, Tryz.results28, go_sem]) rfl ?_
                  rw [HR0.out]
                  exact ⟨none, 0, 0, rfl, rfl, World.ownsRow_nil _ _ _ _, HB2.out⟩
                | some n9 =>
                  rw [hpu] at hpi hpw
                  have HPI := Lib.hid (fun W => (hpi W).mono fun e w' h => (⟨h.1, h.2⟩ : e = .returned (.tuple #[.int .i64 n9, .bool true]) ∧ Below W.heap.size W w'))
                  clear hpi hpu
                  by_cases hr9 : 1 ≤ n9 ∧ n9 ≤ 3
                  · have HPW := Lib.hid (show parW t = some (-n9) from by rw [hpw]; simp only [if_pos hr9])
                    have HIN := Lib.hid (fun W => (l01In_any n9 1 3 W).mono fun e w' h => (⟨by rw [h.1, decide_eq_true hr9.1, decide_eq_true hr9.2]; rfl, h.2⟩ : e = .returned (.bool true) ∧ W = w'))
                    obtain ⟨z, hz⟩ : ∃ z, z = -n9 := ⟨_, rfl⟩
                    rw [← hz] at HPW
                    have hw1 : IntKind.i64.wrap (-1 * n9) = z := by rw [hz]; exact wrap_neg3 hr9
                    have hw2 : IntKind.i64.wrap (-n9) = z := by rw [← hw1]; congr 1; omega
                    clear hpw hz hr9
                    go_upto_region 11 with (fail)
                    rw [← HU.out]
                    go_wp2_with fail
                    rw [← HY.out]
                    refine (HPI.out _).mono ?_
                    rintro e w2 ⟨rfl, bh⟩
                    have HB2 := Lib.hid (HB.out.trans (bh.mono HB.out.size))
                    have OW2 := Lib.hid (own_below OW.out bh)
                    have OR2 := Lib.hid (own_below OR.out bh)
                    have hes2 : e1 ≤ w2.heap.size := Nat.le_trans hes bh.size
                    have hbs := HB2.out.size
                    clear bh OW OR
                    go_wp2_with fail
                    refine (HIN.out _).mono ?_
                    rintro e w3 ⟨rfl, hw3⟩
                    subst hw3
                    go_wp2_with (at_builtin; refine wpList_append_lies _ rfl _ _ 36 rfl (w.heap.size) 3 i1 (.int .i64 0) 1 8 Tryz.underlying36 hii hy0 hy1 hy2 rfl (by decide) _ _ _ rfl (OW2.out.alloc _) ⟨_, 0, none⟩ 1 1 _ rfl rfl (World.news_of_block (heap_newS _ _ _ (by first | rfl | simp))) (one_c1T _) (by decide) (by unfold maxLen; omega) (by omega) (by simp; omega) _ rfl ?_)
                    intro g3 cap w6 ho6 hg6 hat6 hl6
                    go_wp2_with fail
                    go_roundw
                    case rel =>
                      refine ⟨j + 1, o ++ [z], g3, cap, by omega, by go_num, rfl, parJ_next HPJ.out HWJ.out HPW.out, ?_, by simpa [intV] using ho6, (OR2.out.alloc _).kept hg6 (off_block (g := g2) LTW.out (by have := HG2.out; have := HWZ.out; omega) rfl), ?_, (HB2.out.alloc hbs _).grown hg6 (by simp; omega) (fun r hr => (OW2.out.lt r hr).1)⟩
                      · rcases hat6 with h | h
                        · have h9 : g2 = g3 := by simpa [Value.ownBlock] using h
                          rw [← h9]; exact HG2.out
                        · right; rw [h]; (try simp); omega
                      · have h7 := hg6.size; (try simp only [World.alloc, Array.size_push] at h7); (try simp at h7); omega
                    case measure => simp [intOf]; omega
                  · have HPW := Lib.hid (show parW t = none from by rw [hpw]; simp only [if_neg hr9])
                    have HIN := Lib.hid (fun W => (l01In_any n9 1 3 W).mono fun e w' h => (⟨by rw [h.1, show (decide (1 ≤ n9) && decide (n9 ≤ 3)) = false from by rw [← Bool.not_eq_true, Bool.and_eq_true, decide_eq_true_eq, decide_eq_true_eq]; exact hr9], h.2⟩ : e = .returned (.bool false) ∧ W = w'))
                    have HR0 := Lib.hid (parL_none HND.out (j := j + 1) (by rw [← HWS.out, ← HN.out]; omega) (by rw [← HWS.out]; exact parJ_stop HPJ.out HWJ.out HPW.out))
                    clear hpw hr9
                    go_upto_region 11 with (fail)
                    rw [← HU.out]
                    go_wp2_with fail
                    rw [← HY.out]
                    refine (HPI.out _).mono ?_
                    rintro e w2 ⟨rfl, bh⟩
                    have HB2 := Lib.hid (HB.out.trans (bh.mono HB.out.size))
                    clear bh
                    go_wp2_with fail
                    refine (HIN.out _).mono ?_
                    rintro e w3 ⟨rfl, hw3⟩
                    subst hw3
                    go_wp2_with fail
                    refine bodyPost_ret (v := .tuple #[.slice none 0 0, .bool false]) (by simp [results, Tryz.results28, go_sem]) rfl ?_
                    rw [HR0.out]
                    exact ⟨none, 0, 0, rfl, rfl, World.ownsRow_nil _ _ _ _, HB2.out⟩
              · have d1 : ¬ ((u.size : Int) < 2) := by omega
                have d2 : ((u[0].toNat : Int) != 112) = true := by simp; omega
                have HPW := Lib.hid (show parW t = none from by rw [hpw, word_other h2 h112])
                have HR0 := Lib.hid (parL_none HND.out (j := j + 1) (by rw [← HWS.out, ← HN.out]; omega) (by rw [← HWS.out]; exact parJ_stop HPJ.out HWJ.out HPW.out))
                clear hpw h112
                go_upto_region 11 with (fail)
                rw [← HU.out]
                go_wp2_with fail
                refine bodyPost_ret (v := .tuple #[.slice none 0 0, .bool false]) (by simp [results, Tryz.results28, go_sem]) rfl ?_
                rw [HR0.out]
                exact ⟨none, 0, 0, rfl, rfl, World.ownsRow_nil _ _ _ _, HB.out⟩
            · have d1 : ((u.size : Int) < 2) := by omega
              have HPW := Lib.hid (show parW t = none from by rw [hpw, word_short h2])
              have HR0 := Lib.hid (parL_none HND.out (j := j + 1) (by rw [← HWS.out, ← HN.out]; omega) (by rw [← HWS.out]; exact parJ_stop HPJ.out HWJ.out HPW.out))
              clear hpw
              go_upto_region 11 with (fail)
              rw [← HU.out]
              go_wp2_with fail
              refine bodyPost_ret (v := .tuple #[.slice none 0 0, .bool false]) (by simp [results, Tryz.results28, go_sem]) rfl ?_
              rw [HR0.out]
              exact ⟨none, 0, 0, rfl, rfl, World.ownsRow_nil _ _ _ _, HB.out⟩
          · have hng : negB t = false := by rw [neg_is h0]; exact decide_eq_false h33
            have c1 : ((0 : Int) < (t.size : Int)) := by omega
            have c2 : ((t[0].toNat : Int) == 33) = false := by simp; omega
            have hst : stripB t = t := by unfold stripB; rw [hng]; rfl
            have hpw : parW t = match wordN t with | some n => some n | none => none := by unfold parW; rw [hst, hng]; rfl
            clear hst hng h33
            by_cases h2 : 2 ≤ t.size
            · by_cases h112 : t[0].toNat = 112
              · have d1 : ¬ ((t.size : Int) < 2) := by omega
                have d2 : ((t[0].toNat : Int) != 112) = false := by rw [h112]; rfl
                have hwn := word_is h2 h112
                rw [hwn] at hpw
                obtain ⟨y, hy⟩ : ∃ y, y = t.extract 1 t.size := ⟨_, rfl⟩
                rw [← hy] at hpw
                have hys : y.size ≤ 1048576 := by rw [hy, ByteArray.size_extract]; omega
                have hpi := fun W => spec_ParseInt y W hys
                have HY := Lib.hid hy
                clear hwn hy hys h112
                cases hpu : parseOf y with
                | none =>
                  rw [hpu] at hpi hpw
                  have HPW := Lib.hid hpw
                  have HPI := Lib.hid (fun W => (hpi W).mono fun e w' h => (⟨h.1, h.2⟩ : e = .returned (.tuple #[.int .i64 0, .bool false]) ∧ Below W.heap.size W w'))
                  have HR0 := Lib.hid (parL_none HND.out (j := j + 1) (by rw [← HWS.out, ← HN.out]; omega) (by rw [← HWS.out]; exact parJ_stop HPJ.out HWJ.out HPW.out))
                  clear hpi hpw hpu
                  go_wp2_with fail
                  rw [← HY.out]
                  refine (HPI.out _).mono ?_
                  rintro e w2 ⟨rfl, bh⟩
                  have HB2 := Lib.hid (HB.out.trans (bh.mono HB.out.size))
                  clear bh
                  go_wp2_with fail
                  refine bodyPost_ret (v := .tuple #[.slice none 0 0, .bool false]) (by simp [results, Tryz.results28, go_sem]) rfl ?_
                  rw [HR0.out]
                  exact ⟨none, 0, 0, rfl, rfl, World.ownsRow_nil _ _ _ _, HB2.out⟩
                | some n9 =>
                  rw [hpu] at hpi hpw
                  have HPI := Lib.hid (fun W => (hpi W).mono fun e w' h => (⟨h.1, h.2⟩ : e = .returned (.tuple #[.int .i64 n9, .bool true]) ∧ Below W.heap.size W w'))
                  clear hpi hpu
                  by_cases hr9 : 1 ≤ n9 ∧ n9 ≤ 3
                  · have HPW := Lib.hid (show parW t = some (n9) from by rw [hpw]; simp only [if_pos hr9])
                    have HIN := Lib.hid (fun W => (l01In_any n9 1 3 W).mono fun e w' h => (⟨by rw [h.1, decide_eq_true hr9.1, decide_eq_true hr9.2]; rfl, h.2⟩ : e = .returned (.bool true) ∧ W = w'))
                    obtain ⟨z, hz⟩ : ∃ z, z = n9 := ⟨_, rfl⟩
                    rw [← hz] at HPW
                    have hw1 : IntKind.i64.wrap (1 * n9) = z := by rw [hz]; exact wrap_pos3 hr9
                    have hw2 : IntKind.i64.wrap n9 = z := by rw [← hw1]; congr 1; omega
                    clear hpw hz hr9
                    go_wp2_with fail
                    rw [← HY.out]
                    refine (HPI.out _).mono ?_
                    rintro e w2 ⟨rfl, bh⟩
                    have HB2 := Lib.hid (HB.out.trans (bh.mono HB.out.size))
                    have OW2 := Lib.hid (own_below OW.out bh)
                    have OR2 := Lib.hid (own_below OR.out bh)
                    have hes2 : e1 ≤ w2.heap.size := Nat.le_trans hes bh.size
                    have hbs := HB2.out.size
                    clear bh OW OR
                    go_wp2_with fail
                    refine (HIN.out _).mono ?_
                    rintro e w3 ⟨rfl, hw3⟩
                    subst hw3
                    go_wp2_with (at_builtin; refine wpList_append_lies _ rfl _ _ 36 rfl (w.heap.size) 3 i1 (.int .i64 0) 1 8 Tryz.underlying36 hii hy0 hy1 hy2 rfl (by decide) _ _ _ rfl (OW2.out.alloc _) ⟨_, 0, none⟩ 1 1 _ rfl rfl (World.news_of_block (heap_newS _ _ _ (by first | rfl | simp))) (one_c1T _) (by decide) (by unfold maxLen; omega) (by omega) (by simp; omega) _ rfl ?_)
                    intro g3 cap w6 ho6 hg6 hat6 hl6
                    go_wp2_with fail
                    go_roundw
                    case rel =>
                      refine ⟨j + 1, o ++ [z], g3, cap, by omega, by go_num, rfl, parJ_next HPJ.out HWJ.out HPW.out, ?_, by simpa [intV] using ho6, (OR2.out.alloc _).kept hg6 (off_block (g := g2) LTW.out (by have := HG2.out; have := HWZ.out; omega) rfl), ?_, (HB2.out.alloc hbs _).grown hg6 (by simp; omega) (fun r hr => (OW2.out.lt r hr).1)⟩
                      · rcases hat6 with h | h
                        · have h9 : g2 = g3 := by simpa [Value.ownBlock] using h
                          rw [← h9]; exact HG2.out
                        · right; rw [h]; (try simp); omega
                      · have h7 := hg6.size; (try simp only [World.alloc, Array.size_push] at h7); (try simp at h7); omega
                    case measure => simp [intOf]; omega
                  · have HPW := Lib.hid (show parW t = none from by rw [hpw]; simp only [if_neg hr9])
                    have HIN := Lib.hid (fun W => (l01In_any n9 1 3 W).mono fun e w' h => (⟨by rw [h.1, show (decide (1 ≤ n9) && decide (n9 ≤ 3)) = false from by rw [← Bool.not_eq_true, Bool.and_eq_true, decide_eq_true_eq, decide_eq_true_eq]; exact hr9], h.2⟩ : e = .returned (.bool false) ∧ W = w'))
                    have HR0 := Lib.hid (parL_none HND.out (j := j + 1) (by rw [← HWS.out, ← HN.out]; omega) (by rw [← HWS.out]; exact parJ_stop HPJ.out HWJ.out HPW.out))
                    clear hpw hr9
                    go_wp2_with fail
                    rw [← HY.out]
                    refine (HPI.out _).mono ?_
                    rintro e w2 ⟨rfl, bh⟩
                    have HB2 := Lib.hid (HB.out.trans (bh.mono HB.out.size))
                    clear bh
                    go_wp2_with fail
                    refine (HIN.out _).mono ?_
                    rintro e w3 ⟨rfl, hw3⟩
                    subst hw3
                    go_wp2_with fail
                    refine bodyPost_ret (v := .tuple #[.slice none 0 0, .bool false]) (by simp [results, Tryz.results28, go_sem]) rfl ?_
                    rw [HR0.out]
                    exact ⟨none, 0, 0, rfl, rfl, World.ownsRow_nil _ _ _ _, HB2.out⟩
              · have d1 : ¬ ((t.size : Int) < 2) := by omega
                have d2 : ((t[0].toNat : Int) != 112) = true := by simp; omega
                have HPW := Lib.hid (show parW t = none from by rw [hpw, word_other h2 h112])
                have HR0 := Lib.hid (parL_none HND.out (j := j + 1) (by rw [← HWS.out, ← HN.out]; omega) (by rw [← HWS.out]; exact parJ_stop HPJ.out HWJ.out HPW.out))
                clear hpw h112
                go_wp2_with fail
                refine bodyPost_ret (v := .tuple #[.slice none 0 0, .bool false]) (by simp [results, Tryz.results28, go_sem]) rfl ?_
                rw [HR0.out]
                exact ⟨none, 0, 0, rfl, rfl, World.ownsRow_nil _ _ _ _, HB.out⟩
            · have d1 : ((t.size : Int) < 2) := by omega
              have HPW := Lib.hid (show parW t = none from by rw [hpw, word_short h2])
              have HR0 := Lib.hid (parL_none HND.out (j := j + 1) (by rw [← HWS.out, ← HN.out]; omega) (by rw [← HWS.out]; exact parJ_stop HPJ.out HWJ.out HPW.out))
              clear hpw
              go_wp2_with fail
              refine bodyPost_ret (v := .tuple #[.slice none 0 0, .bool false]) (by simp [results, Tryz.results28, go_sem]) rfl ?_
              rw [HR0.out]
              exact ⟨none, 0, 0, rfl, rfl, World.ownsRow_nil _ _ _ _, HB.out⟩
        · have hng := neg_no0 h0
          have c1 : ¬ ((0 : Int) < (t.size : Int)) := by omega
          have d1 : ((t.size : Int) < 2) := by omega
          have HPW := Lib.hid (show parW t = none from by unfold parW; rw [show stripB t = t from by unfold stripB; rw [hng]; rfl, word_short (by omega)])
          have HR0 := Lib.hid (parL_none HND.out (j := j + 1) (by rw [← HWS.out, ← HN.out]; omega) (by rw [← HWS.out]; exact parJ_stop HPJ.out HWJ.out HPW.out))
          clear hng
          go_wp2_with fail
          refine bodyPost_ret (v := .tuple #[.slice none 0 0, .bool false]) (by simp [results, Tryz.results28, go_sem]) rfl ?_
          rw [HR0.out]
          exact ⟨none, 0, 0, rfl, rfl, World.ownsRow_nil _ _ _ _, HB.out⟩
      · have hjl : ¬ ((j : Int) < (n : Int)) := by omega
        have hjn : j = n := by omega
        subst hjn
        have HPL := Lib.hid (parL_some HND.out (by rw [← HWS.out, ← HN.out]; exact HPJ.out))
        have hol := parJ_len HPJ.out
        have hj2 : j ≤ 1048576 := by
          rcases Nat.eq_zero_or_pos j with e | e
          · omega
          · have h1 := parJ_first HPJ.out e
            rw [HWS.out] at h1
            have h2 := split_bound _ _ h1
            rw [← HWS.out, ← HN.out] at h2
            omega
        have HOK := Lib.hid (spec_LabelOk o (some ⟨g2, 0, none⟩) j d2 wr hol (by omega) (own_row OW.out))
        have HFM := Lib.hid (spec_FormatLabel o (some ⟨g2, 0, none⟩) j d2 wr hol (by omega) (own_row OW.out))
        clear hol
        go_wp2_with fail
        refine HOK.out.mono ?_
        rintro e w2 ⟨rfl, rfl⟩
        cases hlab : labR o with
        | false =>
          have HR0 := Lib.hid (show parL s = ([], false) from by rw [HPL.out, hlab]; rfl)
          clear hlab
          go_wp2_with fail
          refine bodyPost_ret (v := .tuple #[.slice none 0 0, .bool false]) (by simp [results, Tryz.results28, go_sem]) rfl ?_
          rw [HR0.out]
          exact ⟨none, 0, 0, rfl, rfl, World.ownsRow_nil _ _ _ _, HB.out⟩
        | true =>
          by_cases hfm : fmtL o = s
          · have HR0 := Lib.hid (show parL s = (o, true) from by rw [HPL.out, hlab, if_pos ⟨rfl, hfm⟩])
            have hq := bytes_same hfm
            clear hlab hfm
            go_wp2_with fail
            refine HFM.out.mono ?_
            rintro e w3 ⟨rfl, bh⟩
            have OW3 := Lib.hid (own_below OW.out bh)
            have HB3 := Lib.hid (HB.out.trans (bh.mono HB.out.size))
            clear bh
            go_wp2_with fail
            refine bodyPost_ret (v := .tuple #[.slice (some ⟨g2, 0, none⟩) j d2, .bool true]) (by simp [results, Tryz.results28, go_sem]) rfl ?_
            rw [HR0.out]
            exact ⟨_, j, d2, rfl, (parJ_len HPJ.out).symm, OW3.out, HB3.out⟩
          · have HR0 := Lib.hid (show parL s = ([], false) from by rw [HPL.out, if_neg (fun h => hfm h.2)])
            have hq := bytes_other hfm
            clear hlab hfm
            go_wp2_with fail
            refine HFM.out.mono ?_
            rintro e w3 ⟨rfl, bh⟩
            have HB3 := Lib.hid (HB.out.trans (bh.mono HB.out.size))
            clear bh
            go_wp2_with fail
            refine bodyPost_ret (v := .tuple #[.slice none 0 0, .bool false]) (by simp [results, Tryz.results28, go_sem]) rfl ?_
            rw [HR0.out]
            exact ⟨none, 0, 0, rfl, rfl, World.ownsRow_nil _ _ _ _, HB3.out⟩

end Go.Proofs.YtgajodcgedhikaaGreatDoor
